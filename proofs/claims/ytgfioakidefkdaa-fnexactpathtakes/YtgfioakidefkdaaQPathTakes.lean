/-
  Proved: at every path and every text, FnExactPathTakes answers true: impl.PathTakes answers as spec.PathTakes does, and the path reads afterwards as it did (for a path that holds more than the law's own bound, and for a longer text, the law asks nothing); nothing that was in memory is changed. No condition.
-/
import Derived.Test.YtgfioakidefkdaaLdM
import Derived.Test.YtgfioakidefkdaaRev
import Derived.OwnWalk
import Derived.Test.YtgfioakidefkdaaTnS
import Derived.Test.YtgfioakidefkdaaGOk
import Derived.Test.YtgfioakidefkdaaWoA
import Derived.Test.YtgfioakidefkdaaGCln
import Derived.Deep.RegionHeld3
import Derived.Test.YtgfioakidefkdaaHld
import Derived.WalkKit
import Derived.ProofKit
import Derived.OpenShut
import Derived.ShutString
import Derived.ChangeOld
import Derived.Below
/-
  Tables of truth, a row a vertex: the model's l06Or, l06Behind.
-/
namespace Go.Proofs.Ytgfioakidefkdaa
open Go.RowKit

/-- m truths in a block -/
def TBlk (w : World) (b m : Nat) (f : Nat → Bool) : Prop := Blk w b m (fun i => .bool (f i))
theorem TBlk.get {w : World} {b m k : Nat} {f : Nat → Bool} (h : TBlk w b m f) (hk : k < m) : w.cell? ⟨b, k, none⟩ = some (.bool (f k)) := Blk.cell h hk
theorem TBlk.of {w w' : World} {b m : Nat} {f : Nat → Bool} (h : TBlk w b m f) (e : w'.heap[b]? = w.heap[b]?) : TBlk w' b m f := Blk.of_block h e
theorem TBlk.lt {w : World} {b m : Nat} {f : Nat → Bool} (h : TBlk w b m f) : b < w.heap.size := Blk.lt h
theorem TBlk.put {w : World} {b m k : Nat} {f : Nat → Bool} (h : TBlk w b m f) (hk : k < m) (v : Bool) : TBlk (w.setCell ⟨b, k, none⟩ (.bool v)) b m (fun i => if i = k then v else f i) :=
  (Blk.set h k hk _).congr fun i hi => by by_cases e : i = k <;> simp [e]
theorem TBlk.congr {w : World} {b m : Nat} {f g : Nat → Bool} (h : TBlk w b m f) (e : ∀ i, i < m → f i = g i) : TBlk w b m g := Blk.congr h fun i hi => by rw [e i hi]
theorem TBlk.kept {p : Nat → Prop} {w w' : World} {b m : Nat} {f : Nat → Bool} (h : TBlk w b m f) (hk : KeptP p w w') (hn : ¬ p b) : TBlk w' b m f := hk.blk h hn

set_option maxHeartbeats 1000000 in
set_option maxRecDepth 100000 in
theorem l06Or_any (p q m c1 c2 : Nat) (f g : Nat → Bool) (w : World) (hp : TBlk w p m f) (hq : TBlk w q m g) (hne : p ≠ q) (hm : m ≤ 1048576) :
    Calls Try.prog 85 #[.slice (some ⟨p, 0, none⟩) m c1, .slice (some ⟨q, 0, none⟩) m c2] w fun e w' => e = .returned (.tuple #[]) ∧ Hid (TBlk w' p m (fun i => f i || g i)) ∧ Hid (KeptP (fun c => c = p) w w') := by
  have HP : Hid (TBlk w p m f) := hp
  have HQ : Hid (TBlk w q m g) := hq
  have HNE : Hid (p ≠ q) := hne
  clear hp hq hne
  go_enter Try.func85, Try.ntmps85
  go_wp2
  go_loopw [4] (fun i wr => ∃ k : Nat, i = .int .i64 k ∧ k ≤ m ∧ Hid (TBlk wr p m (fun i => if i < k then f i || g i else f i)) ∧ Hid (KeptP (fun c => c = p) w wr)) (fun i _ => m - (intOf i).toNat)
  case atStart => exact ⟨0, rfl, by omega, HP.out.congr fun i _ => by simp, KeptP.refl _ _⟩
  case round =>
    obtain ⟨k, rfl, hk, HF, HL⟩ := hrel
    by_cases hlt : k < m
    · have hlt1 : (k : Int) < (m : Int) := by omega
      have hlt0 : (0 : Int) ≤ (k : Int) := by omega
      have hx := HF.out.get hlt
      have HFZ := HF.out.frozen k
      rw [if_neg (by omega)] at hx
      have hy := (HQ.out.kept HL.out (by have := HNE.out; omega)).get hlt
      obtain ⟨x, HX⟩ : ∃ x, Hid (x = f k) := ⟨_, rfl⟩
      obtain ⟨y, HY⟩ : ∃ x, Hid (x = g k) := ⟨_, rfl⟩
      rw [← HX.out] at hx
      rw [← HY.out] at hy
      rcases Bool.eq_false_or_eq_true x with hr | hr
      · subst hr
        clear hy
        go_wp2
        go_roundw
        case rel =>
          refine ⟨k + 1, by go_num, by omega, (HF.out.put hlt true).congr fun i hi => ?_, HL.out.setCell rfl _⟩
          by_cases e : i = k
          · subst e; simp [← HX.out]
          · by_cases e2 : i < k
            · simp [e, e2, show i < k + 1 by omega]
            · simp [e, e2, show ¬ i < k + 1 by omega]
        case measure => simp [intOf]; omega
      · subst hr
        go_wp2
        go_roundw
        case rel =>
          refine ⟨k + 1, by go_num, by omega, (HF.out.put hlt y).congr fun i hi => ?_, HL.out.setCell rfl _⟩
          by_cases e : i = k
          · subst e; simp [← HX.out, HY.out]
          · by_cases e2 : i < k
            · simp [e, e2, show i < k + 1 by omega]
            · simp [e, e2, show ¬ i < k + 1 by omega]
        case measure => simp [intOf]; omega
    · obtain rfl : k = m := by omega
      go_wp2
      go_returns
      exact ⟨rfl, HF.out.congr fun i hi => by simp [hi], HL⟩
end Go.Proofs.Ytgfioakidefkdaa

/-
  The model's l06Behind: one table of truth behind another.
-/
namespace Go.Proofs.Ytgfioakidefkdaa
open Go.RowKit

def behTo (A B : Rl) (i m j : Nat) : Bool := (List.range m).any fun k => A i k && B k j
theorem behTo_succ (A B : Rl) (i m j : Nat) : behTo A B i (m + 1) j = (behTo A B i m j || (A i m && B m j)) := by simp [behTo, List.range_succ]
/-- a square table of truths -/
def BM (w : World) (b n : Nat) (R : Rl) : Prop := TBlk w b (n * n) (fun i => R (i / n) (i % n))
theorem idx_lt {n i j : Nat} (hi : i < n) (hj : j < n) : i * n + j < n * n := by
  have : (i + 1) * n ≤ n * n := Nat.mul_le_mul_right n hi
  rw [Nat.add_mul] at this
  omega
theorem idx_div {n i j : Nat} (hj : j < n) : (i * n + j) / n = i := by
  rw [Nat.mul_comm, Nat.mul_add_div (by omega), Nat.div_eq_of_lt hj]; rfl
theorem idx_mod {n i j : Nat} (hj : j < n) : (i * n + j) % n = j := by
  rw [Nat.mul_comm, Nat.mul_add_mod, Nat.mod_eq_of_lt hj]
theorem BM.get {w : World} {b n i j : Nat} {R : Rl} (h : BM w b n R) (hi : i < n) (hj : j < n) : w.cell? ⟨b, i * n + j, none⟩ = some (.bool (R i j)) := by
  have := TBlk.get h (idx_lt hi hj)
  rw [idx_div hj, idx_mod hj] at this
  exact this
theorem BM.congr {w : World} {b n : Nat} {R S : Rl} (h : BM w b n R) (e : ∀ i j, i < n → j < n → R i j = S i j) : BM w b n S := by
  refine TBlk.congr h fun i hi => ?_
  have h0 : 0 < n := by
    rcases Nat.eq_zero_or_pos n with h | h
    · subst h; simp at hi
    · exact h
  exact e _ _ (Nat.div_lt_of_lt_mul hi) (Nat.mod_lt _ h0)
theorem BM.put {w : World} {b n i j : Nat} {R : Rl} (h : BM w b n R) (hi : i < n) (hj : j < n) (v : Bool) : BM (w.setCell ⟨b, i * n + j, none⟩ (.bool v)) b n (fun x y => if x = i ∧ y = j then v else R x y) := by
  refine (TBlk.put h (idx_lt hi hj) v).congr fun k hk => ?_
  by_cases e : k = i * n + j
  · subst e; rw [idx_div hj, idx_mod hj]; simp
  · rw [if_neg e]
    show _ = if _ then _ else _
    rw [if_neg]
    rintro ⟨rfl, rfl⟩
    apply e
    rw [Nat.mul_comm, Nat.div_add_mod]
theorem BM.of {w w' : World} {b n : Nat} {R : Rl} (h : BM w b n R) (e : w'.heap[b]? = w.heap[b]?) : BM w' b n R := TBlk.of h e
theorem BM.lt {w : World} {b n : Nat} {R : Rl} (h : BM w b n R) : b < w.heap.size := TBlk.lt h
theorem BM.or {w : World} {b n : Nat} {R S : Rl} (h : TBlk w b (n * n) (fun i => R (i / n) (i % n) || S (i / n) (i % n))) : BM w b n (orR R S) := h
theorem Try.info4 : (Try.prog.info? 4).map (fun i => (i.zero, i.size, i.bytes)) = some (some (.bool false), 1, 1) := by kernel_rfl
theorem nn_int {n : Nat} : (n : Int) * (n : Int) = ((n * n : Nat) : Int) := by simp
theorem nn_le13 {n : Nat} (h : n ≤ 13) : n * n ≤ 169 := Nat.mul_le_mul h h
theorem nn_le {n : Nat} (h : n ≤ 12) : n * n ≤ 144 := Nat.mul_le_mul h h

set_option maxHeartbeats 600000 in
set_option maxRecDepth 100000 in
theorem l06Behind_any (p q n c1 c2 : Nat) (A B : Rl) (w : World) (hp : BM w p n A) (hq : BM w q n B) (hn : n ≤ 13) :
    Calls Try.prog 84 #[.slice (some ⟨p, 0, none⟩) (n * n) c1, .slice (some ⟨q, 0, none⟩) (n * n) c2, .int .i64 (n : Int)] w fun e w' => ∃ g : Nat, e = .returned (.slice (some ⟨g, 0, none⟩) (n * n) (n * n)) ∧ Hid (g = w.heap.size) ∧ Hid (BM w' g n (behR n A B)) ∧ Hid (Below w.heap.size w w') := by
  have HP : Hid (BM w p n A) := hp
  have HQ : Hid (BM w q n B) := hq
  clear hp hq
  obtain ⟨i0, hi0, hz0, hz1, hz2⟩ := info_parts Try.info4
  have hnn1 := nn_le13 hn
  have hnn : (n : Int) * (n : Int) = ((n * n : Nat) : Int) := nn_int
  obtain ⟨N2, HN2⟩ : ∃ m, Hid (m = n * n) := ⟨_, rfl⟩
  rw [← HN2.out] at hnn hnn1 ⊢
  go_enter Try.func84, Try.ntmps84
  go_wp2_with (at_make; (refine wpList_make_full _ rfl _ _ 45 rfl w.heap.size 4 i0 (.bool false) 1 Try.underlying45 hi0 hz0 hz1 .i64 .i64 _ _ N2 rfl rfl (by first | rfl | omega) (by first | rfl | omega) (by rw [hz2]; omega) (by unfold maxLen; omega) (Nat.le_refl _) ?_; intro w1 hown hgrow))
  obtain ⟨g, HG⟩ : ∃ g, Hid (g = w.heap.size) := ⟨_, rfl⟩
  have HB1 : Hid (Below w.heap.size w w1) := (Below.refl _ _).grown hgrow (Nat.le_refl _) (fun k hk => nomatch hk)
  have HO1 : Hid (BM w1 g n noR) := by
    rw [HG.out]
    have := blk_own hown
    rw [Nat.mul_one, HN2.out] at this
    refine Blk.congr this fun i hi => ?_
    show (madeCells #[Value.bool false] (n * n)).toList.getD i _ = _
    rw [toList_madeCells_one]
    simp [List.getD, hi, noR]
  rw [← HG.out]
  have HNE : Hid (p ≠ g ∧ q ≠ g) := ⟨by have := HP.out.lt; have := HG.out; omega, by have := HQ.out.lt; have := HG.out; omega⟩
  have HP1 : Hid (BM w1 p n A) := HP.out.of (HB1.out.block _ HP.out.lt)
  have HQ1 : Hid (BM w1 q n B) := HQ.out.of (HB1.out.block _ HQ.out.lt)
  clear hown hgrow HP HQ
  go_loopw [8] (fun v wr => ∃ i : Nat, v = .int .i64 i ∧ i ≤ n ∧ Hid (BM wr g n (fun x y => if x < i then behR n A B x y else false)) ∧ Hid (KeptP (fun c => c = g) w1 wr)) (fun v _ => n - (intOf v).toNat)
  case atStart => exact ⟨0, rfl, by omega, HO1.out.congr fun i j _ _ => by simp [noR], KeptP.refl _ _⟩
  case round =>
    obtain ⟨i, rfl, hi, HI, HL⟩ := hrel
    by_cases hlt : i < n
    · have hlt1 : (i : Int) < (n : Int) := by omega
      have hlt0 : (0 : Int) ≤ (i : Int) := by omega
      obtain ⟨Qi, HQi⟩ : ∃ m, Hid (m = i * n) := ⟨_, rfl⟩
      have hqi : (i : Int) * (n : Int) = (Qi : Int) := by rw [HQi.out]; simp
      go_wp2
      go_loopw [9] (fun v wr => ∃ m : Nat, v = .int .i64 m ∧ m ≤ n ∧ Hid (BM wr g n (fun x y => if x < i then behR n A B x y else if x = i then behTo A B i m y else false)) ∧ Hid (KeptP (fun c => c = g) w1 wr)) (fun v _ => n - (intOf v).toNat)
      case atStart =>
        refine ⟨0, rfl, by omega, HI.out.congr fun x y _ _ => ?_, HL⟩
        by_cases e : x = i <;> simp [e, behTo]
      case round =>
        obtain ⟨m, rfl, hm, HI2, HL2⟩ := hrel
        by_cases hmt : m < n
        · have hmt1 : (m : Int) < (n : Int) := by omega
          have hmt0 : (0 : Int) ≤ (m : Int) := by omega
          obtain ⟨Qm, HQm⟩ : ∃ k, Hid (k = m * n) := ⟨_, rfl⟩
          have hqm : (m : Int) * (n : Int) = (Qm : Int) := by rw [HQm.out]; simp
          have hb1 : Qi + m < N2 := by rw [HQi.out, HN2.out]; exact idx_lt hlt hmt
          obtain ⟨a, HA⟩ : ∃ a, Hid (a = A i m) := ⟨_, rfl⟩
          go_wp2
          go_loopw [10] (fun v wr => ∃ j : Nat, v = .int .i64 j ∧ j ≤ n ∧ Hid (BM wr g n (fun x y => if x < i then behR n A B x y else if x = i then (if y < j then behTo A B i (m + 1) y else behTo A B i m y) else false)) ∧ Hid (KeptP (fun c => c = g) w1 wr)) (fun v _ => n - (intOf v).toNat)
          case atStart => exact ⟨0, rfl, by omega, HI2.out.congr fun x y _ _ => by simp, HL2⟩
          case round =>
            obtain ⟨j, rfl, hj, HI3, HL3⟩ := hrel
            by_cases hjt : j < n
            · have hjt1 : (j : Int) < (n : Int) := by omega
              have hjt0 : (0 : Int) ≤ (j : Int) := by omega
              have hca := (HP1.out.of (HL3.out.block _ HP1.out.lt (by have := HNE.out; omega))).get hlt hmt
              rw [← HQi.out, ← HA.out] at hca
              rcases Bool.eq_false_or_eq_true a with hr | hr
              · subst hr
                have hb2 : Qi + j < N2 := by rw [HQi.out, HN2.out]; exact idx_lt hlt hjt
                have hb3 : Qm + j < N2 := by rw [HQm.out, HN2.out]; exact idx_lt hmt hjt
                obtain ⟨o, HOO⟩ : ∃ o, Hid (o = behTo A B i m j) := ⟨_, rfl⟩
                obtain ⟨y, HY⟩ : ∃ o, Hid (o = B m j) := ⟨_, rfl⟩
                have hco := HI3.out.get hlt hjt
                have hcf := HI3.out.frozen (i * n + j)
                rw [← HQi.out] at hcf
                simp only [Nat.lt_irrefl, if_false, if_true] at hco
                rw [← HQi.out, ← HOO.out] at hco
                have hcb := (HQ1.out.of (HL3.out.block _ HQ1.out.lt (by have := HNE.out; omega))).get hmt hjt
                rw [← HQm.out, ← HY.out] at hcb
                have HST : Hid (behTo A B i (m + 1) j = (o || y)) := by show _ = _; rw [behTo_succ, ← HOO.out, ← HA.out, ← HY.out]; simp
                have HPUT : Hid (∀ v, v = (o || y) → BM (wr.setCell ⟨g, Qi + j, none⟩ (.bool v)) g n (fun x y => if x < i then behR n A B x y else if x = i then (if y < j + 1 then behTo A B i (m + 1) y else behTo A B i m y) else false)) := by
                  intro v hv
                  rw [HQi.out]
                  refine (HI3.out.put hlt hjt v).congr fun x y _ _ => ?_
                  by_cases ex : x = i
                  · subst ex
                    by_cases ey : y = j
                    · subst ey; simp [hv, HST.out]
                    · by_cases e2 : y < j
                      · simp [ey, e2, show y < j + 1 by omega]
                      · simp [ey, e2, show ¬ y < j + 1 by omega]
                  · simp [ex]
                rcases Bool.eq_false_or_eq_true o with hr | hr
                · subst hr
                  clear hcb
                  go_wp2
                  go_roundw
                  case rel => exact ⟨j + 1, by go_num, by omega, HPUT.out _ (by simp), HL3.out.setCell rfl _⟩
                  case measure => simp [intOf]; omega
                · subst hr
                  go_wp2
                  go_roundw
                  case rel => exact ⟨j + 1, by go_num, by omega, HPUT.out _ (by simp), HL3.out.setCell rfl _⟩
                  case measure => simp [intOf]; omega
              · subst hr
                go_wp2
                go_roundw
                case rel =>
                  refine ⟨m + 1, by go_num, by omega, HI3.out.congr fun x y _ _ => ?_, HL3⟩
                  by_cases ex : x = i
                  · subst ex; simp [behTo_succ, ← HA.out]
                  · simp [ex]
                case measure => simp [intOf]; omega
            · obtain rfl : j = n := by omega
              go_wp2
              go_roundw
              case rel =>
                refine ⟨m + 1, by go_num, by omega, HI3.out.congr fun x y _ hy => ?_, HL3⟩
                simp [hy]
              case measure => simp [intOf]; omega
        · obtain rfl : m = n := by omega
          go_wp2
          go_roundw
          case rel =>
            refine ⟨i + 1, by go_num, by omega, HI2.out.congr fun x y _ _ => ?_, HL2⟩
            by_cases ex : x = i
            · subst ex; simp [behTo, behR]
            · by_cases e2 : x < i
              · simp [e2, show x < i + 1 by omega]
              · simp [ex, e2, show ¬ x < i + 1 by omega]
          case measure => simp [intOf]; omega
    · obtain rfl : i = n := by omega
      go_wp2
      go_ret
      exact ⟨g, rfl, HG, HI.out.congr fun x y hx _ => by simp [hx], HB1.out.trans (HL.out.to_below HB1.out.size (fun c hc => by have := HG.out; omega))⟩
end Go.Proofs.Ytgfioakidefkdaa

/-
  A list of tables of truth that grows (for the model's l06Full).
-/
namespace Go.Proofs.Ytgfioakidefkdaa
open Go.RowKit

/-- tables of truth, one for each piece; none of them lies in the list's own block -/
def AllIn (M n : Nat) (w : World) (v : Value) (k : Nat) (rs : List Rl) : Prop :=
  ∃ (xs : List Value) (P C : Nat → Nat), w.ownsRow M 45 1 v k xs ∧ ∀ i, i < k → xs[i]? = some (.slice (some ⟨P i, 0, none⟩) (n * n) (C i)) ∧ v.ownBlock ≠ some (P i) ∧ BM w (P i) n (rs.getD i noR)
theorem AllIn.below {M n k : Nat} {w w' : World} {v : Value} {rs : List Rl} (h : AllIn M n w v k rs) (hb : Below w.heap.size w w') : AllIn M n w' v k rs := by
  obtain ⟨xs, P, C, h1, h2⟩ := h
  refine ⟨xs, P, C, owns_upto (M := w.heap.size) h1 (fun k hk => (h1.lt k hk).2) (fun k _ h => hb.block k h), fun i hi => ?_⟩
  obtain ⟨e1, e2, e3⟩ := h2 i hi
  exact ⟨e1, e2, e3.of (hb.block _ e3.lt)⟩
theorem AllIn.own {M n k : Nat} {w : World} {v : Value} {rs : List Rl} (h : AllIn M n w v k rs) {g : Nat} (hg : v.ownBlock = some g) : g < w.heap.size := by
  obtain ⟨xs, P, C, h1, _⟩ := h
  exact (h1.lt g hg).2
theorem AllIn.wide {M M' n k : Nat} {w : World} {v : Value} {rs : List Rl} (h : AllIn M n w v k rs) (hM : M' ≤ M) : AllIn M' n w v k rs := by
  obtain ⟨xs, P, C, h1, h2⟩ := h
  refine ⟨xs, P, C, ⟨h1.1, ?_⟩, h2⟩
  rcases h1.2 with h3 | ⟨g, cap, cur, e, h4, h5⟩
  · exact .inl h3
  · exact .inr ⟨g, cap, cur, e, by omega, h5⟩
/-- the table of a piece ahead, and where the list tells it -/
theorem AllIn.at {M n k : Nat} {w : World} {v : Value} {rs : List Rl} (h : AllIn M n w v k rs) {i : Nat} (hi : i < k) : ∃ g cap p c, v = .slice (some ⟨g, 0, none⟩) k cap ∧ g < w.heap.size ∧ w.cell? ⟨g, i, none⟩ = some (.slice (some ⟨p, 0, none⟩) (n * n) c) ∧ BM w p n (rs.getD i noR) := by
  obtain ⟨xs, P, C, h1, h2⟩ := h
  obtain ⟨e1, e2, e3⟩ := h2 i hi
  rcases h1.2 with ⟨_, h0⟩ | ⟨g, cap, cur, rfl, hg, hb, _⟩
  · omega
  · refine ⟨g, cap, P i, C i, rfl, (Array.getElem?_eq_some_iff.1 hb).1, ?_, e3⟩
    have := h1.cells (g := g) rfl i _ e1
    rw [Addr.add_mid, Nat.zero_add] at this
    exact this
theorem AllIn.snoc {M n k : Nat} {w w1 : World} {v : Value} {rs : List Rl} {R : Rl} {p c g cap : Nat} {xs : List Value} {P C : Nat → Nat}
    (hlen : xs.length = k) (hrs : rs.length = k) (h2 : ∀ i, i < k → xs[i]? = some (.slice (some ⟨P i, 0, none⟩) (n * n) (C i)) ∧ v.ownBlock ≠ some (P i) ∧ BM w (P i) n (rs.getD i noR))
    (hp : BM w p n R) (hpv : v.ownBlock ≠ some p) (hg : w.grownBy w1 v.ownBlock) (hloc : v.ownBlock = some g ∨ w.heap.size ≤ g)
    (ho : w1.ownsRow M 45 1 (.slice (some ⟨g, 0, none⟩) (k + 1) cap) (k + 1) (xs ++ [.slice (some ⟨p, 0, none⟩) (n * n) c])) :
    AllIn M n w1 (.slice (some ⟨g, 0, none⟩) (k + 1) cap) (k + 1) (rs ++ [R]) := by
  have keep : ∀ {q : Nat} {S : Rl}, BM w q n S → v.ownBlock ≠ some q → BM w1 q n S := fun {q S} hq hne => hq.of (hg.block q hq.lt (fun e => hne e.symm))
  have hoff : ∀ q, q < w.heap.size → v.ownBlock ≠ some q → (Value.slice (some ⟨g, 0, none⟩) (k + 1) cap).ownBlock ≠ some q := by
    intro q hq hne e
    have e2 : g = q := by simpa [Value.ownBlock] using e
    subst e2
    rcases hloc with h | h
    · exact hne h
    · omega
  refine ⟨_, fun i => if i = k then p else P i, fun i => if i = k then c else C i, ho, fun i hi => ?_⟩
  by_cases e : i = k
  · subst e
    refine ⟨by simp [← hlen], by simpa using hoff p hp.lt hpv, ?_⟩
    have : (rs ++ [R]).getD i noR = R := by simp [List.getD, ← hrs]
    rw [this]
    simpa using keep hp hpv
  · obtain ⟨e1, e2, e3⟩ := h2 i (by omega)
    refine ⟨?_, by simpa [e] using hoff _ e3.lt e2, ?_⟩
    · rw [List.getElem?_append_left (by omega), e1]; simp [e]
    · have : (rs ++ [R]).getD i noR = rs.getD i noR := by simp [List.getD, List.getElem?_append_left (show i < rs.length by omega)]
      rw [this]
      simpa [e] using keep e3 e2
theorem AllIn.nil {M n : Nat} {w : World} {v : Value} (h : w.ownsRow M 45 1 v 0 []) : AllIn M n w v 0 [] := ⟨[], fun _ => 0, fun _ => 0, h, fun i hi => absurd hi (by omega)⟩
theorem Try.info45 : (Try.prog.info? 45).map (fun i => (i.zero, i.size, i.bytes)) = some (some (.slice none 0 0), 1, 24) := by kernel_rfl
/-- a truth is put for each edge of a label -/
theorem stepR_snoc (l : List Ed) (e : Ed) (c : Int) (i j : Nat) : stepR (l ++ [e]) c i j = (stepR l c i j || decide (e = ((i : Int), c, (j : Int)))) := by
  rw [Bool.eq_iff_iff, stepR_iff]
  simp only [List.mem_append, List.mem_singleton, Bool.or_eq_true, stepR_iff, decide_eq_true_eq]
  constructor
  · rintro (h | h)
    · exact .inl h
    · exact .inr h.symm
  · rintro (h | h)
    · exact .inl h
    · exact .inr h.symm
end Go.Proofs.Ytgfioakidefkdaa

/-
  The model's l06Full.
-/
namespace Go.Proofs.Ytgfioakidefkdaa
open Go.RowKit

theorem foldTake {α : Type} (f : α → Int → α) (a : α) {ks : List Int} {m : Nat} (hm : m < ks.length) : (ks.take (m + 1)).foldl f a = f ((ks.take m).foldl f a) (ks.getD m 0) := by
  rw [take_snocI ks hm, List.foldl_append]; rfl
theorem row_one {n : Nat} {all : List Rl} {ks : List Int} (h : 0 < ks.length) : rowR n all (ks.take 1) = getR all (ks.getD 0 0) := by
  match ks, h with
  | k :: r, _ => rfl
theorem row_more {n : Nat} {all : List Rl} {ks : List Int} {j : Nat} (h1 : 1 ≤ j) (h : j < ks.length) : rowR n all (ks.take (j + 1)) = behR n (rowR n all (ks.take j)) (getR all (ks.getD j 0)) := by
  match ks, j, h1, h with
  | k :: r, i + 1, _, h => exact foldTake _ _ (by simpa using h)
theorem kid_lt {ks : List Int} {m : Nat} {k : Nat} (h : kidsOk k ks = true) (hm : m < ks.length) : 0 ≤ ks.getD m 0 ∧ ks.getD m 0 < (k : Int) := by
  have := List.all_eq_true.1 h (ks.getD m 0) (by simp [List.getD, hm])
  simpa using this
theorem or_bm (p q n N2 c1 c2 : Nat) (R S : Rl) (w : World) (hN : N2 = n * n) (hp : BM w p n R) (hq : BM w q n S) (hne : p ≠ q) (hn : n ≤ 13) :
    Calls Try.prog 85 #[.slice (some ⟨p, 0, none⟩) N2 c1, .slice (some ⟨q, 0, none⟩) N2 c2] w fun e w' => e = .returned (.tuple #[]) ∧ Hid (BM w' p n (orR R S)) ∧ Hid (KeptP (fun c => c = p) w w') := by
  subst hN
  refine (l06Or_any p q (n * n) c1 c2 _ _ w hp hq hne (Nat.le_trans (nn_le13 hn) (by omega))).mono ?_
  rintro e w' ⟨rfl, h1, h2⟩
  exact ⟨rfl, h1, h2⟩
theorem beh_bm (p q n N2 c1 c2 : Nat) (A B : Rl) (w : World) (hN : N2 = n * n) (hp : BM w p n A) (hq : BM w q n B) (hn : n ≤ 13) :
    Calls Try.prog 84 #[.slice (some ⟨p, 0, none⟩) N2 c1, .slice (some ⟨q, 0, none⟩) N2 c2, .int .i64 (n : Int)] w fun e w' => ∃ g : Nat, e = .returned (.slice (some ⟨g, 0, none⟩) N2 N2) ∧ Hid (g = w.heap.size) ∧ Hid (BM w' g n (behR n A B)) ∧ Hid (Below w.heap.size w w') := by
  subst hN
  exact l06Behind_any p q n c1 c2 A B w hp hq hn

set_option maxHeartbeats 600000 in
set_option maxRecDepth 100000 in
theorem l06Full_of (lo hi : Nat) (NN : Nat) (a : Option Addr) (n cap : Nat) (l : List Ed) (lo2 hi2 : Nat) (b : Option Addr) (m mc : Nat) (ps : List Pc) (w : World) (ha : EdgesIn lo hi w a l) (hh : hi ≤ w.heap.size) (hn : l.length = n) (hm : n ≤ 1048576)
    (hb : PathIn lo2 hi2 w b ps) (hh2 : hi2 ≤ w.heap.size) (hn2 : ps.length = m) (hm2 : m ≤ 60) (hq : ∀ i, i < m → (pat ps i).2.2.length ≤ 1048576) (hNN : 1 ≤ NN ∧ NN ≤ 13) (hed : ∀ e ∈ l, okE (NN : Int) e = true) (hokp : ∀ k, k < m → formOk (pat ps k) = true ∧ kidsOk k (pat ps k).2.2 = true) :
    Calls Try.prog 60 #[gv (NN : Int) a n cap, pv b m mc] w fun e w' => ∃ v, e = .returned v ∧ Hid (AllIn w.heap.size NN w' v m (relTo NN l ps m)) ∧ Hid (Below w.heap.size w w') := by
  have HN : Hid (l.length = n) := hn
  have HA : Hid (EdgesIn lo hi w a l) := ha
  have HH : Hid (hi ≤ w.heap.size) := hh
  have HP : Hid (PathIn lo2 hi2 w b ps) := hb
  have HH2 : Hid (hi2 ≤ w.heap.size) := hh2
  have HN2 : Hid (ps.length = m) := hn2
  have HQ : Hid (∀ i, i < m → (pat ps i).2.2.length ≤ 1048576) := hq
  have HED : Hid (∀ e ∈ l, okE (NN : Int) e = true) := hed
  have HN1 : Hid (1 ≤ NN) := hNN.1
  have HOP : Hid (∀ k, k < m → formOk (pat ps k) = true ∧ kidsOk k (pat ps k).2.2 = true) := hokp
  have hN12 : NN ≤ 13 := hNN.2
  clear ha hh hn hb hh2 hn2 hq hed hNN hokp
  obtain ⟨i0, hi0, hz0, hz1, hz2⟩ := info_parts Try.info4
  obtain ⟨i1, hi1, hy0, hy1, hy2⟩ := info_parts Try.info45
  obtain ⟨N2, HNN⟩ : ∃ m, Hid (m = NN * NN) := ⟨_, rfl⟩
  have hnn1 : N2 ≤ 169 := by rw [HNN.out]; exact nn_le13 hN12
  have hnn : (NN : Int) * (NN : Int) = (N2 : Int) := by rw [HNN.out]; exact nn_int
  obtain ⟨B, HB⟩ : ∃ B, Hid (B = w.heap.size) := ⟨_, rfl⟩
  obtain ⟨W, HW⟩ : ∃ W, Hid (W = (w.alloc (.cells #[.int .i64 (NN : Int), .slice a n cap] 26)).alloc (.cells #[.slice b m mc] 30)) := ⟨_, rfl⟩
  have HBW : Hid (Below w.heap.size w W) := by rw [HW.out]; exact below2 w _ _
  have HSW : Hid (W.heap.size = B + 2) := by rw [HW.out, HB.out]; show _ = _; simp
  have HG : Hid (Blk W B 2 (fun i => if i = 0 then .int .i64 (NN : Int) else .slice a n cap)) := by rw [HW.out]; exact (blk_two w B HB.out _ _ _).alloc _
  have HPB : Hid (Blk W (B + 1) 1 (fun _ => .slice b m mc)) := by rw [HW.out]; exact blk_one _ (B + 1) (by rw [HB.out]; simp) _ _
  have q0 := HPB.out.cell (i := 0) (by omega)
  obtain ⟨g0, g1⟩ := blk_pair_cells HG.out
  unfold pv
  go_enter Try.func60, Try.ntmps60
  go_upto_region 1 with fail
  rw [← HB.out, ← HW.out]
  clear HW
  go_upto_region 3 with fail
  rw [HSW.out]
  clear q0 g0 g1
  go_wp2
  go_loopw [7, 6] (fun i v wr => ∃ k : Nat, i = .int .i64 k ∧ k ≤ m ∧ Hid (AllIn (B + 2) NN wr v k (relTo NN l ps k)) ∧ Hid (Below (B + 2) W wr)) (fun i _ _ => m - (intOf i).toNat)
  case atStart =>
    refine ⟨0, rfl, by omega, AllIn.nil ?_, ?_⟩
    · have := World.ownsRow_made W (base := B + 2) (e := 45) (size := 1) #[] 0 (by rw [HSW.out]; exact Nat.le_refl _) (Nat.zero_le _) rfl
      simpa [HSW.out] using this
    · exact (Below.refl _ _).alloc (by rw [HSW.out]; exact Nat.le_refl _) _
  case round =>
    obtain ⟨V, rfl⟩ : ∃ V, V = wr := ⟨_, rfl⟩
    obtain ⟨k, rfl, hk, HAL, HL⟩ := hrel
    have HLM : Hid (Below W.heap.size W V) := by rw [HSW.out]; exact HL.out
    have hszr : B + 2 ≤ V.heap.size := by rw [← HSW.out]; exact HLM.out.size
    have HBER : Hid (Below w.heap.size w V) := HBW.out.trans (HLM.out.mono HBW.out.size)
    have HGR : Hid (Blk V B 2 (fun i => if i = 0 then .int .i64 (NN : Int) else .slice a n cap)) := HG.out.of_block (HLM.out.block _ HG.out.lt)
    have HPR : Hid (Blk V (B + 1) 1 (fun _ => .slice b m mc)) := HPB.out.of_block (HLM.out.block _ HPB.out.lt)
    have q0 := HPR.out.cell (i := 0) (by omega)
    by_cases hlt : k < m
    · have hlt1 : (k : Int) < (m : Int) := by omega
      have hlt0 : (0 : Int) ≤ (k : Int) := by omega
      obtain ⟨pb, po, rfl, _, _, hx⟩ := (HP.out.below HBER.out HH2.out).piece (k := k) (by rw [HN2.out]; exact hlt)
      obtain ⟨hf, hko⟩ := HOP.out k hlt
      have hqk := HQ.out k hlt
      have HREL : Hid (relTo NN l ps (k + 1) = relTo NN l ps k ++ [pcR NN l (relTo NN l ps k) (pat ps k)]) := rfl
      obtain ⟨z, HZ⟩ : ∃ z : Pc, Hid (z = pat ps k) := ⟨_, rfl⟩
      rw [← HZ.out] at hx hf hko hqk HREL
      obtain ⟨x, y, ks⟩ := z
      obtain ⟨p0, p1, ra, rc, p2, hrow⟩ := hx
      dsimp only at p0 p1 p2 hrow hqk hko
      obtain ⟨q, HKL⟩ : ∃ q, Hid (ks.length = q) := ⟨_, rfl⟩
      rw [HKL.out] at p2 hqk
      have HFO : Hid (formOk (x, y, ks) = true) := hf
      have HKO : Hid (kidsOk k ks = true) := hko
      obtain ⟨E, HEE⟩ : ∃ E, Hid (E = V.heap.size) := ⟨_, rfl⟩
      obtain ⟨W1, HW1⟩ : ∃ W1, Hid (W1 = V.alloc (.cells #[.int .i64 x, .int .u8 y, .slice ra q rc] 72)) := ⟨_, rfl⟩
      have HWB : Hid (Below V.heap.size V W1) := by rw [HW1.out]; exact below1 _ _
      have HBX : Hid (Blk W1 E 3 (fun i => if i = 0 then .int .i64 x else if i = 1 then .int .u8 y else .slice ra q rc)) := by rw [HW1.out]; exact blk_three V E HEE.out _ _ _ _
      have HS1 : Hid (W1.heap.size = E + 1) := by rw [HW1.out, HEE.out]; show _ = _; simp
      have HRW : Hid (RowIn lo2 hi2 V ra ks) := hrow
      clear hf hko hrow
      go_upto_region 7 with fail
      rw [← HEE.out, ← HW1.out]
      clear p0 p1 p2 q0 HW1
      go_upto_region 8 with (at_make; refine wpList_make_full _ rfl _ _ 45 rfl W1.heap.size 4 i0 (.bool false) 1 Try.underlying45 hi0 hz0 hz1 .i64 .i64 _ _ N2 rfl rfl (by first | rfl | omega) (by first | rfl | omega) (by rw [hz2]; omega) (by unfold maxLen; omega) (Nat.le_refl _) ?_; intro w2 hown hgrow)
      -- HEAD END
      obtain ⟨D, HD⟩ : ∃ D, Hid (D = E + 1) := ⟨_, rfl⟩
      have HB2 : Hid (Below W1.heap.size W1 w2) := (Below.refl _ _).grown hgrow (Nat.le_refl _) (fun k hk => nomatch hk)
      have HO2 : Hid (BM w2 D NN noR) := by
        rw [HD.out, ← HS1.out]
        have := blk_own hown
        rw [Nat.mul_one, HNN.out] at this
        refine Blk.congr this fun i hi => ?_
        show (madeCells #[Value.bool false] (NN * NN)).toList.getD i _ = _
        rw [toList_madeCells_one]
        simp [List.getD, hi, noR]
      rw [HS1.out, ← HD.out]
      have HX2 : Hid (Blk w2 E 3 (fun i => if i = 0 then .int .i64 x else if i = 1 then .int .u8 y else .slice ra q rc)) := HBX.out.of_block (HB2.out.block _ HBX.out.lt)
      have HBE2 : Hid (Below E V w2) := by rw [HEE.out]; exact HWB.out.trans (HB2.out.mono HWB.out.size)
      clear hown hgrow HB2 HBX HWB
      obtain ⟨q0, q1, q2⟩ := blk_three_set HX2.out
      go_upto_block 2 with fail
      go_cut [9] (fun v wc => ∃ g c, v = .slice (some ⟨g, 0, none⟩) N2 c ∧ Hid (E ≤ g) ∧ Hid (BM wc g NN (pcR NN l (relTo NN l ps k) (x, y, ks))) ∧ Hid (Below E V wc))
      case first =>
        rcases formOk_cases HFO.out with ⟨rfl, h3, h4⟩ | ⟨rfl, rfl, h4⟩ | ⟨rfl, rfl, h4⟩ | ⟨rfl, rfl, h4⟩ | ⟨rfl, rfl, h4⟩ | ⟨rfl, rfl, h4⟩
        · obtain rfl : q = 0 := by have := HKL.out; omega
          clear q0 q1 q2
          obtain ⟨q0, q1, q2⟩ := blk_three_set HX2.out
          have hna : n ≤ 1048576 := hm
          go_wp2
          go_loopw [10] (fun i wr => ∃ j : Nat, i = .int .i64 j ∧ j ≤ n ∧ Hid (BM wr D NN (stepR (l.take j) y)) ∧ Hid (KeptP (fun c => c = D) w2 wr)) (fun i _ => n - (intOf i).toNat)
          case atStart => exact ⟨0, rfl, by omega, HO2.out.congr (fun i j _ _ => by simp [stepR, noR]), KeptP.refl _ _⟩
          case round =>
            obtain ⟨j, rfl, hj, HBJ, HLJ⟩ := hrel
            have HXJ : Hid (Blk wr E 3 (fun i => if i = 0 then .int .i64 1 else if i = 1 then .int .u8 y else .slice ra 0 rc)) := HX2.out.of_block (HLJ.out.block _ HX2.out.lt (by have := HD.out; omega))
            have HBEJ : Hid (Below E V wr) := HBE2.out.trans (HLJ.out.to_below (by rw [HEE.out]; exact HBE2.out.size) (fun c hc => by have := HD.out; omega))
            have HGJ : Hid (Blk wr B 2 (fun i => if i = 0 then .int .i64 (NN : Int) else .slice a n cap)) := HGR.out.of_block (HBEJ.out.block _ (by have := HGR.out.lt; have := HEE.out; omega))
            clear q0 q1 q2
            obtain ⟨q0, q1, q2⟩ := blk_three_set HXJ.out
            obtain ⟨g0, g1⟩ := blk_pair_cells HGJ.out
            by_cases hjn : j < n
            · have hjn1 : (j : Int) < (n : Int) := by omega
              have hjn0 : (0 : Int) ≤ (j : Int) := by omega
              have hjl : j < l.length := by rw [HN.out]; exact hjn
              obtain ⟨eb, eo, rfl, _, _, hed⟩ := (HA.out.below (HBER.out.trans (HBEJ.out.mono (by have := HBER.out.size; have := HEE.out; omega))) HH.out).edge (k := j) hjl
              have hoe2 : okE (NN : Int) (eat l j) = true := HED.out _ (by rw [eat_get hjl]; exact List.getElem_mem hjl)
              unfold okE inV at hoe2
              simp only [Bool.and_eq_true, decide_eq_true_eq] at hoe2
              have HTK : Hid (l.take (j + 1) = l.take j ++ [eat l j]) := take_snocE l hjl
              obtain ⟨z, HZE⟩ : ∃ z : Ed, Hid (z = eat l j) := ⟨_, rfl⟩
              rw [← HZE.out] at hed hoe2 HTK
              obtain ⟨zf, zl, zt⟩ := z
              obtain ⟨e0, e1, e2⟩ := hed
              dsimp only at e0 e1 e2 hoe2
              obtain ⟨f, rfl⟩ : ∃ f : Nat, zf = (f : Int) := ⟨zf.toNat, by omega⟩
              obtain ⟨t, rfl⟩ : ∃ t : Nat, zt = (t : Int) := ⟨zt.toNat, by omega⟩
              have hf1 : f < NN := by omega
              have ht1 : t < NN := by omega
              obtain ⟨Qf, HQf⟩ : ∃ k, Hid (k = f * NN) := ⟨_, rfl⟩
              have hqf : (f : Int) * (NN : Int) = (Qf : Int) := by rw [HQf.out]; simp
              have hb1 : Qf + t < N2 := by rw [HQf.out, HNN.out]; exact idx_lt hf1 ht1
              have HST : Hid (∀ i k, stepR (l.take (j + 1)) y i k = (stepR (l.take j) y i k || decide (((f : Int), zl, (t : Int)) = ((i : Int), y, (k : Int))))) := by intro i k; rw [HTK.out]; exact stepR_snoc _ _ _ _ _
              clear hoe2 HZE
              by_cases hzy : zl = y
              · subst hzy
                have hco := HBJ.out.get hf1 ht1
                have hcf := HBJ.out.frozen (f * NN + t)
                rw [← HQf.out] at hcf hco
                have HPUT : Hid (∀ wx : World, wx.heap = wr.heap → BM (wx.setCell ⟨D, Qf + t, none⟩ (.bool true)) D NN (stepR (l.take (j + 1)) zl)) := by
                  intro wx hwx
                  rw [HQf.out]
                  refine ((HBJ.out.of (by rw [hwx])).put hf1 ht1 true).congr fun i k _ _ => ?_
                  rw [HST.out]
                  by_cases e1 : i = f ∧ k = t
                  · obtain ⟨rfl, rfl⟩ := e1; simp
                  · rw [if_neg e1]
                    have : ¬ (((f : Int), zl, (t : Int)) = ((i : Int), zl, (k : Int))) := by
                      intro e
                      simp only [Prod.mk.injEq, true_and] at e
                      exact e1 ⟨by omega, by omega⟩
                    simp [this]
                go_wp2_with fail
                go_quiet (fail)
                go_wp2_with fail
                go_region
                go_wp2
                go_roundw
                case rel => exact ⟨j + 1, by go_num, by omega, HPUT.out _ rfl, KeptP.setCell (HLJ.out.trans (KeptP.of_below (below_drewN (Below.refl _ _) _) (fun k hk _ => hk))) rfl _⟩
                case measure => simp [intOf]; omega
              · have HSE : Hid (∀ i k, stepR (l.take (j + 1)) y i k = stepR (l.take j) y i k) := by
                  intro i k
                  rw [HST.out]
                  have : ¬ (((f : Int), zl, (t : Int)) = ((i : Int), y, (k : Int))) := by
                    intro e
                    simp only [Prod.mk.injEq] at e
                    exact hzy e.2.1
                  simp [this]
                go_wp2_with fail
                go_quiet (fail)
                go_wp2
                go_roundw
                case rel => exact ⟨j + 1, by go_num, by omega, (HBJ.out.of rfl).congr (fun i k _ _ => (HSE.out i k).symm), HLJ.out.trans (KeptP.of_below (below_drewN (Below.refl _ _) _) (fun k hk _ => hk))⟩
                case measure => simp [intOf]; omega
            · obtain rfl : j = n := by omega
              have HTA : Hid (l.take j = l) := by show _ = _; rw [← HN.out]; exact List.take_length
              rw [HTA.out] at HBJ
              go_wp2
              go_meet
              case rel => exact ⟨D, _, rfl, by have := HD.out; show _ ≤ _; omega, HBJ, HBEJ⟩
        · have hq2 : 2 ≤ q := by have := HKL.out; omega
          have hq2i : (0 : Int) < (q : Int) := by omega
          clear q0 q1 q2
          have hn1 : 1 ≤ NN := HN1.out
          have hN2p : 0 < N2 := by rw [HNN.out]; exact Nat.mul_pos hn1 hn1
          have hsz2 : E ≤ w2.heap.size := by rw [HEE.out]; exact HBE2.out.size
          obtain ⟨q0, q1, q2⟩ := blk_three_set (HX2.out.alloc (.cells #[] 4))
          have hz := kid_lt HKO.out (m := 0) (by rw [HKL.out]; omega)
          obtain ⟨kd, hkd⟩ : ∃ kd : Nat, ks.getD 0 0 = (kd : Int) := ⟨(ks.getD 0 0).toNat, by omega⟩
          have hkk : kd < k := by omega
          have hkk1 : (kd : Int) < (k : Int) := by omega
          have hkk0 : (0 : Int) ≤ (kd : Int) := by omega
          have HR2 : Hid (RowIn lo2 hi2 w2 ra ks) := HRW.out.below (HBE2.out.mono (Nat.le_of_eq HEE.out.symm)) (Nat.le_trans HH2.out HBER.out.size)
          obtain ⟨rb, ro, rfl, hrc⟩ := HR2.out.num (i := 0) (by rw [HKL.out]; omega)
          rw [hkd, Nat.add_zero] at hrc
          have hrc2 := cell_below hrc (below1 w2 (.cells #[] 4)) (lt_of_cell hrc)
          obtain ⟨gl, cl, pk, ck, rfl, hgl, hcl, hbk⟩ := HAL.out.at hkk
          have hcl2 := cell_below hcl HBE2.out (by rw [HEE.out]; exact hgl)
          rw [← HNN.out] at hcl2
          have hcl3 := cell_below hcl2 (below1 w2 (.cells #[] 4)) (lt_of_cell hcl2)
          obtain ⟨K0, HK0⟩ : ∃ K, Hid (K = getR (relTo NN l ps k) (kd : Int)) := ⟨_, rfl⟩
          have HBK : Hid (BM w2 pk NN K0) := by rw [HK0.out]; exact hbk.of (HBE2.out.block _ (by rw [HEE.out]; exact hbk.lt))
          have HST0 : Hid (rowR NN (relTo NN l ps k) (ks.take 1) = K0) := by
            rw [HK0.out, ← hkd]
            exact row_one (by have := HKL.out; omega)
          obtain ⟨TL, HTL⟩ : ∃ t, Hid (t = (List.range N2).map fun i => Value.bool (K0 (i / NN) (i % NN))) := ⟨_, rfl⟩
          have hTL : TL.length = N2 * 1 := by rw [HTL.out]; simp
          have hown := World.ownsRow_made w2 (base := E) (e := 4) (size := 1) #[] 0 hsz2 (Nat.zero_le _) rfl
          have HNEW : Hid (∀ j u, TL[j]? = some u → (w2.alloc (.cells #[] 4)).cell? ((⟨pk, 0, none⟩ : Addr).add j) = some u) := by
            intro j u hu
            have hj : j < N2 := by have := (List.getElem?_eq_some_iff.1 hu).1; omega
            rw [HTL.out] at hu
            simp [hj] at hu
            rw [Addr.add_mid, Nat.zero_add, ← hu]
            exact TBlk.get (HBK.out.of (Below.heap_alloc w2 _ _ HBK.out.lt)) (by rw [← HNN.out]; exact hj)
          clear hcl hbk hz hrc hcl2
          go_wp2_with (at_builtin; refine wpList_append_lies _ rfl (.tmp 121) (.tmp 128) 45 rfl E 4 i0 (.bool false) 1 1 Try.underlying45 hi0 hz0 hz1 hz2 rfl (by decide) _ 0 [] rfl hown ⟨pk, 0, none⟩ N2 ck TL rfl hTL HNEW.out (by rw [HTL.out]; simp [Value.oneCell']) hN2p (by unfold maxLen; omega) (by omega) (by simp; omega) _ rfl ?_)
          intro g5 cap5 w6 hown5 hgrow5 hloc5 _
          have HE5 : Hid (E ≤ g5) := by rcases hloc5 with h | h; · simp [Value.ownBlock] at h; show _ ≤ _; omega
                                        · show _ ≤ _; omega
          have HB5 : Hid (BM w6 g5 NN K0) := by
            have := blk_own hown5
            rw [Nat.mul_one] at this
            show TBlk _ _ _ _
            rw [← HNN.out]
            refine Blk.congr this fun i hi => ?_
            rw [HTL.out]; simp [List.getD, hi]
          have HBE5 : Hid (Below E V w6) := (HBE2.out.alloc hsz2 _).grown hgrow5 (by simp; omega) (fun k hk => by simp [Value.ownBlock] at hk; omega)
          have HX6 : Hid (Blk w6 E 3 (fun i => if i = 0 then .int .i64 2 else if i = 1 then .int .u8 0 else .slice (some ⟨rb, ro, none⟩) q rc)) := (HX2.out.alloc _).of_block (hgrow5.block E (HX2.out.alloc (.cells #[] 4)).lt (by have := HX2.out.lt; simp [Value.ownBlock]; omega))
          clear hown hown5 hgrow5 hloc5 HNEW q0 q1 q2 hrc2 hcl3 hkd hkk hkk1 hkk0
          go_wp2
          go_loopw [11, 9] (fun i v wr => ∃ (j g c : Nat), i = .int .i64 j ∧ 1 ≤ j ∧ j ≤ q ∧ v = .slice (some ⟨g, 0, none⟩) N2 c ∧ Hid (E ≤ g) ∧ Hid (BM wr g NN (rowR NN (relTo NN l ps k) (ks.take j))) ∧ Hid (Below E V wr) ∧ Hid (Blk wr E 3 (fun i => if i = 0 then .int .i64 2 else if i = 1 then .int .u8 0 else .slice (some ⟨rb, ro, none⟩) q rc))) (fun i _ _ => q - (intOf i).toNat)
          case atStart => exact ⟨1, g5, cap5, rfl, by omega, by omega, rfl, HE5, by rw [HST0.out]; exact HB5, HBE5, HX6⟩
          case round =>
            obtain ⟨j, g, c, rfl, hj1, hj, rfl, HEJ, HBJ, HBEJ, HXJ⟩ := hrel
            obtain ⟨q0, q1, q2⟩ := blk_three_set HXJ.out
            by_cases hjq : j < q
            · have hjq1 : (j : Int) < (q : Int) := by omega
              have hjq0 : (0 : Int) ≤ (j : Int) := by omega
              have hz := kid_lt HKO.out (m := j) (by rw [HKL.out]; omega)
              obtain ⟨kd, hkd⟩ : ∃ kd : Nat, ks.getD j 0 = (kd : Int) := ⟨(ks.getD j 0).toNat, by omega⟩
              have hkk : kd < k := by omega
              have hkk1 : (kd : Int) < (k : Int) := by omega
              have hkk0 : (0 : Int) ≤ (kd : Int) := by omega
              obtain ⟨rb2, ro2, e2, hrc⟩ := ((HRW.out.below (HBEJ.out.mono (Nat.le_of_eq HEE.out.symm)) (Nat.le_trans HH2.out HBER.out.size))).num (i := j) (by rw [HKL.out]; exact hjq)
              simp only [Option.some.injEq, Addr.mk.injEq, and_true] at e2
              obtain ⟨rfl, rfl⟩ := e2
              rw [hkd] at hrc
              obtain ⟨gl2, cl2, pk2, ck2, e3, hgl2, hcl, hbk⟩ := HAL.out.at hkk
              simp only [Value.slice.injEq, Option.some.injEq, Addr.mk.injEq, and_true, true_and] at e3
              obtain ⟨rfl, rfl⟩ := e3
              have hcl2 := cell_below hcl HBEJ.out (by rw [HEE.out]; exact hgl2)
              rw [← HNN.out] at hcl2
              have HBK2 : Hid (BM wr pk2 NN (getR (relTo NN l ps k) (kd : Int))) := hbk.of (HBEJ.out.block _ (by rw [HEE.out]; exact hbk.lt))
              have HST : Hid (rowR NN (relTo NN l ps k) (ks.take (j + 1)) = behR NN (rowR NN (relTo NN l ps k) (ks.take j)) (getR (relTo NN l ps k) (kd : Int))) := by rw [← hkd]; exact row_more hj1 (by rw [HKL.out]; exact hjq)
              clear hcl hbk hz
              go_wp2_with fail
              refine (beh_bm g pk2 NN N2 _ _ _ _ wr HNN.out HBJ.out HBK2.out hN12).mono ?_
              rintro e w4 ⟨g4, rfl, HG4, HB4, HE4⟩
              go_wp2
              go_roundw
              case rel => exact ⟨j + 1, g4, N2, by go_num, by omega, by omega, rfl, by have := HG4.out; have := HXJ.out.lt; show _ ≤ _; omega, by rw [HST.out]; exact HB4, HBEJ.out.trans (HE4.out.mono (by have := HXJ.out.lt; omega)), HXJ.out.of_block (HE4.out.block _ HXJ.out.lt)⟩
              case measure => simp [intOf]; omega
            · obtain rfl : j = q := by omega
              have HTA : Hid (ks.take j = ks) := by show _ = _; rw [← HKL.out]; exact List.take_length
              rw [HTA.out] at HBJ
              go_wp2
              go_meet
              case rel => exact ⟨g, c, rfl, HEJ, HBJ, HBEJ⟩

        · clear q0 q1 q2
          obtain ⟨q0, q1, q2⟩ := blk_three_set HX2.out
          go_wp2
          go_loopw [12] (fun i wr => ∃ j : Nat, i = .int .i64 j ∧ j ≤ q ∧ Hid (BM wr D NN (altR (relTo NN l ps k) (ks.take j))) ∧ Hid (KeptP (fun c => c = D) w2 wr)) (fun i _ => q - (intOf i).toNat)
          case atStart => exact ⟨0, rfl, by omega, by simpa [altR] using HO2, KeptP.refl _ _⟩
          case round =>
            obtain ⟨j, rfl, hj, HBJ, HLJ⟩ := hrel
            have HXJ : Hid (Blk wr E 3 (fun i => if i = 0 then .int .i64 3 else if i = 1 then .int .u8 0 else .slice ra q rc)) := HX2.out.of_block (HLJ.out.block _ HX2.out.lt (by have := HD.out; omega))
            have HBEJ : Hid (Below E V wr) := HBE2.out.trans (HLJ.out.to_below (by rw [HEE.out]; exact HBE2.out.size) (fun c hc => by have := HD.out; omega))
            clear q0 q1 q2
            obtain ⟨q0, q1, q2⟩ := blk_three_set HXJ.out
            by_cases hjq : j < q
            · have hjq1 : (j : Int) < (q : Int) := by omega
              have hjq0 : (0 : Int) ≤ (j : Int) := by omega
              have hz := kid_lt HKO.out (m := j) (by rw [HKL.out]; omega)
              obtain ⟨kd, hkd⟩ : ∃ kd : Nat, ks.getD j 0 = (kd : Int) := ⟨(ks.getD j 0).toNat, by omega⟩
              have hkk : kd < k := by omega
              have hkk1 : (kd : Int) < (k : Int) := by omega
              have hkk0 : (0 : Int) ≤ (kd : Int) := by omega
              obtain ⟨rb, ro, rfl, hrc⟩ := ((HRW.out.below (HBEJ.out.mono (Nat.le_of_eq HEE.out.symm)) (Nat.le_trans HH2.out HBER.out.size))).num (i := j) (by rw [HKL.out]; exact hjq)
              rw [hkd] at hrc
              obtain ⟨gl, cl, pk, ck, rfl, hgl, hcl, hbk⟩ := HAL.out.at hkk
              have hcl2 := cell_below hcl HBEJ.out (by rw [HEE.out]; exact hgl)
              rw [← HNN.out] at hcl2
              have HBK : Hid (BM wr pk NN (getR (relTo NN l ps k) (kd : Int))) := hbk.of (HBEJ.out.block _ (by rw [HEE.out]; exact hbk.lt))
              have HPK : Hid (D ≠ pk) := by have := hbk.lt; have := HEE.out; have := HD.out; show _ ≠ _; omega
              have HST : Hid (altR (relTo NN l ps k) (ks.take (j + 1)) = orR (altR (relTo NN l ps k) (ks.take j)) (getR (relTo NN l ps k) (kd : Int))) := by show _ = _; unfold altR; rw [foldTake _ _ (by rw [HKL.out]; exact hjq), hkd]
              clear hcl hbk hz
              go_wp2_with fail
              refine (or_bm D pk NN N2 _ _ _ _ wr HNN.out HBJ.out HBK.out HPK.out hN12).mono ?_
              rintro e w3 ⟨rfl, HB3, HK3⟩
              go_wp2
              go_roundw
              case rel => exact ⟨j + 1, by go_num, by omega, by rw [HST.out]; exact HB3, HLJ.out.trans HK3.out⟩
              case measure => simp [intOf]; omega
            · obtain rfl : j = q := by omega
              have HTA : Hid (ks.take j = ks) := by show _ = _; rw [← HKL.out]; exact List.take_length
              rw [HTA.out] at HBJ
              go_wp2
              go_meet
              case rel => exact ⟨D, _, rfl, by have := HD.out; show _ ≤ _; omega, HBJ, HBEJ⟩
        · obtain rfl : q = 1 := by have := HKL.out; omega
          clear q0 q1 q2
          have hn1 : 1 ≤ NN := HN1.out
          have hn1i : (0 : Int) < (NN : Int) := by omega
          have hz := kid_lt HKO.out (m := 0) (by rw [HKL.out]; omega)
          obtain ⟨kd, hkd⟩ : ∃ kd : Nat, ks.getD 0 0 = (kd : Int) := ⟨(ks.getD 0 0).toNat, by omega⟩
          have hkk : kd < k := by omega
          have hkk1 : (kd : Int) < (k : Int) := by omega
          have hkk0 : (0 : Int) ≤ (kd : Int) := by omega
          obtain ⟨rb, ro, rfl, hrc0⟩ := HRW.out.num (i := 0) (by rw [HKL.out]; omega)
          rw [hkd] at hrc0
          have HRC : Hid (V.cell? ⟨rb, ro + 0, none⟩ = some (.int .i64 (kd : Int))) := hrc0
          obtain ⟨gl, cl, pk, ck, rfl, hgl, hcl, hbk⟩ := HAL.out.at hkk
          rw [← HNN.out] at hcl
          obtain ⟨K0, HK0⟩ : ∃ K, Hid (K = getR (relTo NN l ps k) (kd : Int)) := ⟨_, rfl⟩
          have HPC : Hid (pcR NN l (relTo NN l ps k) (4, 0, ks) = starR NN K0) := by rw [HK0.out, ← hkd]; rfl
          have HBKV : Hid (BM V pk NN K0) := by rw [HK0.out]; exact hbk
          have HPK : Hid (D ≠ pk) := by have := hbk.lt; have := HEE.out; have := HD.out; show _ ≠ _; omega
          have HKEEP : Hid (∀ wx, Below E V wx → wx.cell? ⟨rb, ro + 0, none⟩ = some (.int .i64 (kd : Int)) ∧ wx.cell? ⟨gl, kd, none⟩ = some (.slice (some ⟨pk, 0, none⟩) N2 ck) ∧ BM wx pk NN K0) := fun wx h =>
            ⟨cell_below hrc0 h (by rw [HEE.out]; exact lt_of_cell hrc0), cell_below hcl h (by rw [HEE.out]; exact hgl), HBKV.out.of (h.block _ (by rw [HEE.out]; exact HBKV.out.lt))⟩
          clear hcl hbk hz hrc0 hgl
          obtain ⟨r0, r1, HBK2⟩ := HKEEP.out w2 HBE2.out
          have HBK : Hid (BM w2 pk NN K0) := HBK2
          clear HBK2
          rw [Nat.add_zero] at r0
          obtain ⟨q0, q1, q2⟩ := blk_three_set HX2.out
          go_wp2_with fail
          refine (or_bm D pk NN N2 _ _ _ _ w2 HNN.out HO2.out HBK.out HPK.out hN12).mono ?_
          rintro e w3 ⟨rfl, HB3, HK3⟩
          have HB3K : Hid (BM w3 D NN K0) := HB3.out.congr (fun i j _ _ => by simp [orR, noR])
          have HBE3 : Hid (Below E V w3) := HBE2.out.trans (HK3.out.to_below (by rw [HEE.out]; exact HBE2.out.size) (fun c hc => by have := HD.out; omega))
          have HX3 : Hid (Blk w3 E 3 (fun i => if i = 0 then .int .i64 4 else if i = 1 then .int .u8 0 else .slice (some ⟨rb, ro, none⟩) 1 rc)) := HX2.out.of_block (HK3.out.block _ HX2.out.lt (by have := HD.out; omega))
          clear q0 q1 q2 r0 r1 HB3
          go_wp2
          go_loopw [13] (fun i wr => ∃ r : Nat, i = .int .i64 r ∧ r ≤ NN ∧ Hid (BM wr D NN (itR NN K0 r)) ∧ Hid (KeptP (fun c => c = D) w3 wr)) (fun i _ => NN - (intOf i).toNat)
          case atStart => exact ⟨0, rfl, by omega, HB3K, KeptP.refl _ _⟩
          case round =>
            obtain ⟨r, rfl, hr, HBR, HLR⟩ := hrel
            have HBER2 : Hid (Below E V wr) := HBE3.out.trans (HLR.out.to_below (by rw [HEE.out]; exact HBE3.out.size) (fun c hc => by have := HD.out; omega))
            have HXR : Hid (Blk wr E 3 (fun i => if i = 0 then .int .i64 4 else if i = 1 then .int .u8 0 else .slice (some ⟨rb, ro, none⟩) 1 rc)) := HX3.out.of_block (HLR.out.block _ HX3.out.lt (by have := HD.out; omega))
            obtain ⟨q0, q1, q2⟩ := blk_three_set HXR.out
            by_cases hrn : r < NN
            · have hrn1 : (r : Int) < (NN : Int) := by omega
              have hrn0 : (0 : Int) ≤ (r : Int) := by omega
              obtain ⟨r0, r1, HBK2⟩ := HKEEP.out wr HBER2.out
              have HBKR : Hid (BM wr pk NN K0) := HBK2
              clear HBK2
              rw [Nat.add_zero] at r0
              go_wp2_with fail
              refine (beh_bm D pk NN N2 _ _ _ _ wr HNN.out HBR.out HBKR.out hN12).mono ?_
              rintro e w4 ⟨g4, rfl, HG4, HB4, HE4⟩
              go_wp2_with fail
              refine (or_bm D g4 NN N2 _ _ _ _ w4 HNN.out (HBR.out.of (HE4.out.block _ HBR.out.lt)) HB4.out (by have := HG4.out; have := HBR.out.lt; omega) hN12).mono ?_
              rintro e w5 ⟨rfl, HB5, HK5⟩
              go_wp2
              go_roundw
              case rel => exact ⟨r + 1, by go_num, by omega, HB5, (HLR.out.trans (KeptP.of_below HE4.out (fun k hk _ => hk))).trans HK5.out⟩
              case measure => simp [intOf]; omega
            · obtain rfl : r = NN := by omega
              go_wp2
              clear q0 q1 q2
              go_loopw [14] (fun i wr => ∃ v : Nat, i = .int .i64 v ∧ v ≤ r ∧ Hid (BM wr D r (fun i j => (plusR r K0) i j || (decide (i = j) && decide (i < v)))) ∧ Hid (KeptP (fun c => c = D) w3 wr)) (fun i _ => r - (intOf i).toNat)
              case atStart => exact ⟨0, rfl, by omega, HBR.out.congr (fun i j _ _ => by simp [plusR]), HLR⟩
              case round =>
                obtain ⟨v, rfl, hv, HBV, HLV⟩ := hrel
                have HBEV : Hid (Below E V wr) := HBE3.out.trans (HLV.out.to_below (by rw [HEE.out]; exact HBE3.out.size) (fun c hc => by have := HD.out; omega))
                have HXV : Hid (Blk wr E 3 (fun i => if i = 0 then .int .i64 4 else if i = 1 then .int .u8 0 else .slice (some ⟨rb, ro, none⟩) 1 rc)) := HX3.out.of_block (HLV.out.block _ HX3.out.lt (by have := HD.out; omega))
                obtain ⟨q0, q1, q2⟩ := blk_three_set HXV.out
                by_cases hvn : v < r
                · have hvn1 : (v : Int) < (r : Int) := by omega
                  have hvn0 : (0 : Int) ≤ (v : Int) := by omega
                  obtain ⟨Qv, HQv⟩ : ∃ k, Hid (k = v * r) := ⟨_, rfl⟩
                  have hqv : (v : Int) * (r : Int) = (Qv : Int) := by rw [HQv.out]; simp
                  have hb1 : Qv + v < N2 := by rw [HQv.out, HNN.out]; exact idx_lt hvn hvn
                  have hco := HBV.out.get hvn hvn
                  have hcf := HBV.out.frozen (v * r + v)
                  rw [← HQv.out] at hcf hco
                  have HPUT : Hid (BM (wr.setCell ⟨D, Qv + v, none⟩ (.bool true)) D r (fun i j => (plusR r K0) i j || (decide (i = j) && decide (i < v + 1)))) := by
                    rw [HQv.out]
                    refine (HBV.out.put hvn hvn true).congr fun i j _ _ => ?_
                    by_cases e1 : i = v
                    · subst e1
                      by_cases e2 : j = i
                      · subst e2; simp
                      · simp [e2, Ne.symm e2]
                    · by_cases e2 : i < v
                      · simp [e1, e2, show i < v + 1 by omega]
                      · simp [e1, e2, show ¬ i < v + 1 by omega]
                  go_wp2
                  go_roundw
                  case rel => exact ⟨v + 1, by go_num, by omega, HPUT, HLV.out.setCell rfl _⟩
                  case measure => simp [intOf]; omega
                · obtain rfl : v = r := by omega
                  have HFI : Hid (BM wr D v (starR v K0)) := HBV.out.congr fun i j hi _ => by simp [starR, orR, idR, hi]
                  go_wp2
                  go_meet
                  case rel => exact ⟨D, _, rfl, by have := HD.out; show _ ≤ _; omega, by rw [HPC.out]; exact HFI, HBEV⟩
        · obtain rfl : q = 1 := by have := HKL.out; omega
          clear q0 q1 q2
          have hn1 : 1 ≤ NN := HN1.out
          have hn1i : (0 : Int) < (NN : Int) := by omega
          have hz := kid_lt HKO.out (m := 0) (by rw [HKL.out]; omega)
          obtain ⟨kd, hkd⟩ : ∃ kd : Nat, ks.getD 0 0 = (kd : Int) := ⟨(ks.getD 0 0).toNat, by omega⟩
          have hkk : kd < k := by omega
          have hkk1 : (kd : Int) < (k : Int) := by omega
          have hkk0 : (0 : Int) ≤ (kd : Int) := by omega
          obtain ⟨rb, ro, rfl, hrc0⟩ := HRW.out.num (i := 0) (by rw [HKL.out]; omega)
          rw [hkd] at hrc0
          have HRC : Hid (V.cell? ⟨rb, ro + 0, none⟩ = some (.int .i64 (kd : Int))) := hrc0
          obtain ⟨gl, cl, pk, ck, rfl, hgl, hcl, hbk⟩ := HAL.out.at hkk
          rw [← HNN.out] at hcl
          obtain ⟨K0, HK0⟩ : ∃ K, Hid (K = getR (relTo NN l ps k) (kd : Int)) := ⟨_, rfl⟩
          have HPC : Hid (pcR NN l (relTo NN l ps k) (5, 0, ks) = plusR NN K0) := by rw [HK0.out, ← hkd]; rfl
          have HBKV : Hid (BM V pk NN K0) := by rw [HK0.out]; exact hbk
          have HPK : Hid (D ≠ pk) := by have := hbk.lt; have := HEE.out; have := HD.out; show _ ≠ _; omega
          have HKEEP : Hid (∀ wx, Below E V wx → wx.cell? ⟨rb, ro + 0, none⟩ = some (.int .i64 (kd : Int)) ∧ wx.cell? ⟨gl, kd, none⟩ = some (.slice (some ⟨pk, 0, none⟩) N2 ck) ∧ BM wx pk NN K0) := fun wx h =>
            ⟨cell_below hrc0 h (by rw [HEE.out]; exact lt_of_cell hrc0), cell_below hcl h (by rw [HEE.out]; exact hgl), HBKV.out.of (h.block _ (by rw [HEE.out]; exact HBKV.out.lt))⟩
          clear hcl hbk hz hrc0 hgl
          obtain ⟨r0, r1, HBK2⟩ := HKEEP.out w2 HBE2.out
          have HBK : Hid (BM w2 pk NN K0) := HBK2
          clear HBK2
          rw [Nat.add_zero] at r0
          obtain ⟨q0, q1, q2⟩ := blk_three_set HX2.out
          go_wp2_with fail
          refine (or_bm D pk NN N2 _ _ _ _ w2 HNN.out HO2.out HBK.out HPK.out hN12).mono ?_
          rintro e w3 ⟨rfl, HB3, HK3⟩
          have HB3K : Hid (BM w3 D NN K0) := HB3.out.congr (fun i j _ _ => by simp [orR, noR])
          have HBE3 : Hid (Below E V w3) := HBE2.out.trans (HK3.out.to_below (by rw [HEE.out]; exact HBE2.out.size) (fun c hc => by have := HD.out; omega))
          have HX3 : Hid (Blk w3 E 3 (fun i => if i = 0 then .int .i64 5 else if i = 1 then .int .u8 0 else .slice (some ⟨rb, ro, none⟩) 1 rc)) := HX2.out.of_block (HK3.out.block _ HX2.out.lt (by have := HD.out; omega))
          clear q0 q1 q2 r0 r1 HB3
          go_wp2
          go_loopw [13] (fun i wr => ∃ r : Nat, i = .int .i64 r ∧ r ≤ NN ∧ Hid (BM wr D NN (itR NN K0 r)) ∧ Hid (KeptP (fun c => c = D) w3 wr)) (fun i _ => NN - (intOf i).toNat)
          case atStart => exact ⟨0, rfl, by omega, HB3K, KeptP.refl _ _⟩
          case round =>
            obtain ⟨r, rfl, hr, HBR, HLR⟩ := hrel
            have HBER2 : Hid (Below E V wr) := HBE3.out.trans (HLR.out.to_below (by rw [HEE.out]; exact HBE3.out.size) (fun c hc => by have := HD.out; omega))
            have HXR : Hid (Blk wr E 3 (fun i => if i = 0 then .int .i64 5 else if i = 1 then .int .u8 0 else .slice (some ⟨rb, ro, none⟩) 1 rc)) := HX3.out.of_block (HLR.out.block _ HX3.out.lt (by have := HD.out; omega))
            obtain ⟨q0, q1, q2⟩ := blk_three_set HXR.out
            by_cases hrn : r < NN
            · have hrn1 : (r : Int) < (NN : Int) := by omega
              have hrn0 : (0 : Int) ≤ (r : Int) := by omega
              obtain ⟨r0, r1, HBK2⟩ := HKEEP.out wr HBER2.out
              have HBKR : Hid (BM wr pk NN K0) := HBK2
              clear HBK2
              rw [Nat.add_zero] at r0
              go_wp2_with fail
              refine (beh_bm D pk NN N2 _ _ _ _ wr HNN.out HBR.out HBKR.out hN12).mono ?_
              rintro e w4 ⟨g4, rfl, HG4, HB4, HE4⟩
              go_wp2_with fail
              refine (or_bm D g4 NN N2 _ _ _ _ w4 HNN.out (HBR.out.of (HE4.out.block _ HBR.out.lt)) HB4.out (by have := HG4.out; have := HBR.out.lt; omega) hN12).mono ?_
              rintro e w5 ⟨rfl, HB5, HK5⟩
              go_wp2
              go_roundw
              case rel => exact ⟨r + 1, by go_num, by omega, HB5, (HLR.out.trans (KeptP.of_below HE4.out (fun k hk _ => hk))).trans HK5.out⟩
              case measure => simp [intOf]; omega
            · obtain rfl : r = NN := by omega
              go_wp2
              clear q0 q1 q2
              go_loopw [14] (fun i wr => ∃ v : Nat, i = .int .i64 v ∧ v ≤ r ∧ v = 0 ∧ Hid (BM wr D r ((plusR r K0))) ∧ Hid (KeptP (fun c => c = D) w3 wr)) (fun i _ => r - (intOf i).toNat)
              case atStart => exact ⟨0, rfl, by omega, rfl, HBR.out.congr (fun i j _ _ => by simp [plusR]), HLR⟩
              case round =>
                obtain ⟨v, rfl, hv, rfl, HBV, HLV⟩ := hrel
                have HBEV : Hid (Below E V wr) := HBE3.out.trans (HLV.out.to_below (by rw [HEE.out]; exact HBE3.out.size) (fun c hc => by have := HD.out; omega))
                have HXV : Hid (Blk wr E 3 (fun i => if i = 0 then .int .i64 5 else if i = 1 then .int .u8 0 else .slice (some ⟨rb, ro, none⟩) 1 rc)) := HX3.out.of_block (HLV.out.block _ HX3.out.lt (by have := HD.out; omega))
                obtain ⟨q0, q1, q2⟩ := blk_three_set HXV.out
                go_wp2
                go_meet
                case rel => exact ⟨D, _, rfl, by have := HD.out; show _ ≤ _; omega, by rw [HPC.out]; exact HBV, HBEV⟩
        · obtain rfl : q = 1 := by have := HKL.out; omega
          clear q0 q1 q2
          have hn1 : 1 ≤ NN := HN1.out
          have hn1i : (0 : Int) < (NN : Int) := by omega
          have hz := kid_lt HKO.out (m := 0) (by rw [HKL.out]; omega)
          obtain ⟨kd, hkd⟩ : ∃ kd : Nat, ks.getD 0 0 = (kd : Int) := ⟨(ks.getD 0 0).toNat, by omega⟩
          have hkk : kd < k := by omega
          have hkk1 : (kd : Int) < (k : Int) := by omega
          have hkk0 : (0 : Int) ≤ (kd : Int) := by omega
          obtain ⟨rb, ro, rfl, hrc0⟩ := HRW.out.num (i := 0) (by rw [HKL.out]; omega)
          rw [hkd] at hrc0
          have HRC : Hid (V.cell? ⟨rb, ro + 0, none⟩ = some (.int .i64 (kd : Int))) := hrc0
          obtain ⟨gl, cl, pk, ck, rfl, hgl, hcl, hbk⟩ := HAL.out.at hkk
          rw [← HNN.out] at hcl
          obtain ⟨K0, HK0⟩ : ∃ K, Hid (K = getR (relTo NN l ps k) (kd : Int)) := ⟨_, rfl⟩
          have HPC : Hid (pcR NN l (relTo NN l ps k) (6, 0, ks) = orR K0 idR) := by rw [HK0.out, ← hkd]; rfl
          have HBKV : Hid (BM V pk NN K0) := by rw [HK0.out]; exact hbk
          have HPK : Hid (D ≠ pk) := by have := hbk.lt; have := HEE.out; have := HD.out; show _ ≠ _; omega
          have HKEEP : Hid (∀ wx, Below E V wx → wx.cell? ⟨rb, ro + 0, none⟩ = some (.int .i64 (kd : Int)) ∧ wx.cell? ⟨gl, kd, none⟩ = some (.slice (some ⟨pk, 0, none⟩) N2 ck) ∧ BM wx pk NN K0) := fun wx h =>
            ⟨cell_below hrc0 h (by rw [HEE.out]; exact lt_of_cell hrc0), cell_below hcl h (by rw [HEE.out]; exact hgl), HBKV.out.of (h.block _ (by rw [HEE.out]; exact HBKV.out.lt))⟩
          clear hcl hbk hz hrc0 hgl
          obtain ⟨r0, r1, HBK2⟩ := HKEEP.out w2 HBE2.out
          have HBK : Hid (BM w2 pk NN K0) := HBK2
          clear HBK2
          rw [Nat.add_zero] at r0
          obtain ⟨q0, q1, q2⟩ := blk_three_set HX2.out
          go_wp2_with fail
          refine (or_bm D pk NN N2 _ _ _ _ w2 HNN.out HO2.out HBK.out HPK.out hN12).mono ?_
          rintro e w3 ⟨rfl, HB3, HK3⟩
          have HB3K : Hid (BM w3 D NN K0) := HB3.out.congr (fun i j _ _ => by simp [orR, noR])
          have HBE3 : Hid (Below E V w3) := HBE2.out.trans (HK3.out.to_below (by rw [HEE.out]; exact HBE2.out.size) (fun c hc => by have := HD.out; omega))
          have HX3 : Hid (Blk w3 E 3 (fun i => if i = 0 then .int .i64 6 else if i = 1 then .int .u8 0 else .slice (some ⟨rb, ro, none⟩) 1 rc)) := HX2.out.of_block (HK3.out.block _ HX2.out.lt (by have := HD.out; omega))
          clear q0 q1 q2 r0 r1 HB3
          go_wp2
          go_loopw [13] (fun i wr => i = .int .i64 0 ∧ Hid (BM wr D NN K0) ∧ Hid (KeptP (fun c => c = D) w3 wr)) (fun _ _ => 0)
          case atStart => exact ⟨rfl, HB3K, KeptP.refl _ _⟩
          case round =>
            obtain ⟨rfl, HBR, HLR⟩ := hrel
            have HBER2 : Hid (Below E V wr) := HBE3.out.trans (HLR.out.to_below (by rw [HEE.out]; exact HBE3.out.size) (fun c hc => by have := HD.out; omega))
            have HXR : Hid (Blk wr E 3 (fun i => if i = 0 then .int .i64 6 else if i = 1 then .int .u8 0 else .slice (some ⟨rb, ro, none⟩) 1 rc)) := HX3.out.of_block (HLR.out.block _ HX3.out.lt (by have := HD.out; omega))
            obtain ⟨q0, q1, q2⟩ := blk_three_set HXR.out
            go_wp2
            clear q0 q1 q2
            go_loopw [14] (fun i wr => ∃ v : Nat, i = .int .i64 v ∧ v ≤ NN ∧ Hid (BM wr D NN (fun i j => K0 i j || (decide (i = j) && decide (i < v)))) ∧ Hid (KeptP (fun c => c = D) w3 wr)) (fun i _ => NN - (intOf i).toNat)
            case atStart => exact ⟨0, rfl, by omega, HBR.out.congr (fun i j _ _ => by simp ), HLR⟩
            case round =>
              obtain ⟨v, rfl, hv, HBV, HLV⟩ := hrel
              have HBEV : Hid (Below E V wr) := HBE3.out.trans (HLV.out.to_below (by rw [HEE.out]; exact HBE3.out.size) (fun c hc => by have := HD.out; omega))
              have HXV : Hid (Blk wr E 3 (fun i => if i = 0 then .int .i64 6 else if i = 1 then .int .u8 0 else .slice (some ⟨rb, ro, none⟩) 1 rc)) := HX3.out.of_block (HLV.out.block _ HX3.out.lt (by have := HD.out; omega))
              obtain ⟨q0, q1, q2⟩ := blk_three_set HXV.out
              by_cases hvn : v < NN
              · have hvn1 : (v : Int) < (NN : Int) := by omega
                have hvn0 : (0 : Int) ≤ (v : Int) := by omega
                obtain ⟨Qv, HQv⟩ : ∃ k, Hid (k = v * NN) := ⟨_, rfl⟩
                have hqv : (v : Int) * (NN : Int) = (Qv : Int) := by rw [HQv.out]; simp
                have hb1 : Qv + v < N2 := by rw [HQv.out, HNN.out]; exact idx_lt hvn hvn
                have hco := HBV.out.get hvn hvn
                have hcf := HBV.out.frozen (v * NN + v)
                rw [← HQv.out] at hcf hco
                have HPUT : Hid (BM (wr.setCell ⟨D, Qv + v, none⟩ (.bool true)) D NN (fun i j => K0 i j || (decide (i = j) && decide (i < v + 1)))) := by
                  rw [HQv.out]
                  refine (HBV.out.put hvn hvn true).congr fun i j _ _ => ?_
                  by_cases e1 : i = v
                  · subst e1
                    by_cases e2 : j = i
                    · subst e2; simp
                    · simp [e2, Ne.symm e2]
                  · by_cases e2 : i < v
                    · simp [e1, e2, show i < v + 1 by omega]
                    · simp [e1, e2, show ¬ i < v + 1 by omega]
                go_wp2
                go_roundw
                case rel => exact ⟨v + 1, by go_num, by omega, HPUT, HLV.out.setCell rfl _⟩
                case measure => simp [intOf]; omega
              · obtain rfl : v = NN := by omega
                have HFI : Hid (BM wr D v (orR K0 idR)) := HBV.out.congr fun i j hi _ => by simp [orR, idR, hi]
                go_wp2
                go_meet
                case rel => exact ⟨D, _, rfl, by have := HD.out; show _ ≤ _; omega, by rw [HPC.out]; exact HFI, HBEV⟩
      case rest =>
        obtain ⟨g, c, rfl, HEG, HBG, HBEC⟩ := hcut
        obtain ⟨xs, P, C, hox, h2⟩ := HAL.out.below (HBEC.out.mono (Nat.le_of_eq HEE.out.symm))
        have hown := hox.alloc (.cells #[.slice (some ⟨g, 0, none⟩) N2 c] 45)
        have hszc : B + 2 ≤ wc.heap.size := Nat.le_trans hszr HBEC.out.size
        have HLC : Hid (Below (B + 2) W wc) := HL.out.trans (HBEC.out.mono (by have := HEE.out; omega))
        go_wp2_with (at_builtin; refine wpList_append_lies _ rfl (.tmp 167) (.tmp 169) 104 rfl (B + 2) 45 i1 (.slice none 0 0) 1 24 Try.underlying104 hi1 hy0 hy1 hy2 rfl (by decide) _ k xs rfl hown ⟨wc.heap.size, 0, none⟩ 1 1 [.slice (some ⟨g, 0, none⟩) N2 c] rfl rfl (cell_one_new' wc (.slice (some ⟨g, 0, none⟩) N2 c) 45) (by simp [Value.oneCell']) (by decide) (by unfold maxLen; omega) (by omega) (by simp; omega) _ rfl ?_)
        intro g5 cap5 w6 hown5 hgrow5 hloc5 hg5
        have HL6 : Hid (Below (B + 2) W w6) := (HLC.out.alloc hszc _).grown hgrow5 (by simp; omega) (fun k hk => (hox.lt k hk).1)
        have HA6 : Hid (AllIn (B + 2) NN w6 (.slice (some ⟨g5, 0, none⟩) (k + 1) cap5) (k + 1) (relTo NN l ps (k + 1))) := by
          rw [HREL.out]
          have hbb : ∀ {p R}, BM wc p NN R → BM (wc.alloc (.cells #[.slice (some ⟨g, 0, none⟩) N2 c] 45)) p NN R := fun h => h.of (Below.heap_alloc wc _ _ h.lt)
          refine AllIn.snoc (w := wc.alloc (.cells #[.slice (some ⟨g, 0, none⟩) N2 c] 45)) (p := g) (c := c) (P := P) (C := C) (xs := xs) (by have := hox.1; omega) (relTo_len _ _ _ _) (fun i hi => ⟨(h2 i hi).1, (h2 i hi).2.1, hbb (h2 i hi).2.2⟩) (hbb HBG.out) ?_ hgrow5 ?_ ?_
          · intro e
            have := (HAL.out.own e)
            have := HEG.out; have := HEE.out; omega
          · rcases hloc5 with h | h
            · exact .inl h
            · right; simp; omega
          · rw [HNN.out] at hown5; exact hown5
        clear hown hown5 hgrow5 hox h2
        go_wp2
        go_roundw
        case rel => exact ⟨k + 1, by go_num, by omega, HA6, HL6⟩
        case measure => simp [intOf]; omega
    · obtain rfl : k = m := by omega
      go_wp2
      go_ret
      exact ⟨_, rfl, HAL.out.wide (by have := HB.out; omega), HBER⟩
theorem l06Full_any (lo hi : Nat) (NN : Nat) (a : Option Addr) (n cap : Nat) (l : List Ed) (lo2 hi2 : Nat) (b : Option Addr) (m mc : Nat) (ps : List Pc) (w : World) (ha : EdgesIn lo hi w a l) (hh : hi ≤ w.heap.size) (hn : l.length = n) (hm : n ≤ 1048576)
    (hb : PathIn lo2 hi2 w b ps) (hh2 : hi2 ≤ w.heap.size) (hn2 : ps.length = m) (hm2 : m ≤ 60) (hq : ∀ i, i < m → (pat ps i).2.2.length ≤ 1048576) (hok : okG (NN : Int) l = true) (hokp : ∀ k, k < m → formOk (pat ps k) = true ∧ kidsOk k (pat ps k).2.2 = true) :
    Calls Try.prog 60 #[gv (NN : Int) a n cap, pv b m mc] w fun e w' => ∃ v, e = .returned v ∧ Hid (AllIn w.heap.size NN w' v m (relTo NN l ps m)) ∧ Hid (Below w.heap.size w w') :=
  l06Full_of lo hi NN a n cap l lo2 hi2 b m mc ps w ha hh hn hm hb hh2 hn2 hm2 hq (by have := okG_12 hok; omega) (okG_iff.1 hok).2.2.1 hokp
end Go.Proofs.Ytgfioakidefkdaa

/-
  The model's line of a word: spec.l07Word, spec.l07Line; what a step of a word tells.
-/
namespace Go.Proofs.Ytgfioakidefkdaa
open Go.RowKit

/-- all bytes are a to d -/
def wOk (T : ByteArray) (k : Nat) : Bool := (List.range k).all fun i => isL ((bt T i : Nat) : Int)
theorem wOk_succ (T : ByteArray) (k : Nat) : wOk T (k + 1) = (wOk T k && isL ((bt T k : Nat) : Int)) := by simp [wOk, List.range_succ]
theorem wOk_no {T : ByteArray} {k n : Nat} (hk : k < n) (h : isL ((bt T k : Nat) : Int) = false) : wOk T n = false := by
  rw [Bool.eq_false_iff]
  intro h1
  have := List.all_eq_true.1 h1 k (List.mem_range.2 hk)
  rw [h] at this; cases this
theorem wOk_at {T : ByteArray} {k n : Nat} (hk : k < n) (h : wOk T n = true) : isL ((bt T k : Nat) : Int) = true := List.all_eq_true.1 h k (List.mem_range.2 hk)
theorem line_ok {T : ByteArray} {n : Nat} (h : wOk T n = true) : ∀ e ∈ lineE T n, okE ((n + 1 : Nat) : Int) e = true := by
  intro e he
  unfold lineE at he
  rw [List.mem_map] at he
  obtain ⟨i, hi, rfl⟩ := he
  have h1 := List.mem_range.1 hi
  have h2 := isL_yes (wOk_at h1 h)
  unfold okE inV
  simp only [Bool.and_eq_true, decide_eq_true_eq]
  omega

theorem word_step (T : ByteArray) (n : Nat) (w : World) (hn : T.size = n) (hm : n ≤ 12) : StepTells (.func (.func 64) #[.string T] #[]) (n + 1) (lineE T n) w := by
  intro c av w0 h0
  exact leadsOf_stepW (n + 1) T av c (stepR (lineE T n) c) w0 (fun w1 h1 => inWord_any T c n w1 hn hm)

set_option maxHeartbeats 1000000 in
theorem l07Word_any (T : ByteArray) (n : Nat) (r : Bool) (w : World) (hn : T.size = n) (hm : n ≤ 1048576) (hr : r = (wOk T n && decide (n ≤ 12))) : Calls Try.prog 59 #[.string T] w fun e w' => e = .returned (.bool r) ∧ w = w' := by
  have HN : Hid (T.size = n) := hn
  have HR : Hid (r = (wOk T n && decide (n ≤ 12))) := hr
  have hsz : (T.size : Int) = (n : Int) := by rw [hn]
  clear hn hr
  go_enter Try.func59, Try.ntmps59
  go_wp2
  go_loop [3] (fun i => ∃ k : Nat, i = .int .i64 k ∧ k ≤ n ∧ Hid (wOk T k = true)) (fun i => n - (intOf i).toNat)
  case atStart => exact ⟨0, rfl, by omega, rfl⟩
  case round =>
    obtain ⟨k, rfl, hk, HE⟩ := hrel
    by_cases hlt : k < n
    · have hlt1 : (k : Int) < (n : Int) := by omega
      have hlt0 : (0 : Int) ≤ (k : Int) := by omega
      have hkT : k < T.size := by rw [HN.out]; exact hlt
      have hk2 : (k : Int) < (T.size : Int) := by omega
      have HB : Hid ((T[k]'hkT).toNat = bt T k) := by show _ = _; rw [bt_lt hkT]
      by_cases h1 : (((T[k]'hkT).toNat : Nat) : Int) < 97
      · have hf : Hid (r = false) := by
          show _ = _
          rw [HR.out, wOk_no hlt (by rw [← HB.out]; unfold isL; simp; omega)]; rfl
        go_wp2
        go_ret
        exact ⟨by rw [hf.out]; rfl, rfl⟩
      · by_cases h2 : (((T[k]'hkT).toNat : Nat) : Int) > 100
        · have hf : Hid (r = false) := by
            show _ = _
            rw [HR.out, wOk_no hlt (by rw [← HB.out]; unfold isL; simp; omega)]; rfl
          go_wp2
          go_ret
          exact ⟨by rw [hf.out]; rfl, rfl⟩
        · have HS : Hid (wOk T (k + 1) = true) := by
            show _ = _
            rw [wOk_succ, HE.out, ← HB.out]; unfold isL; simp; omega
          go_wp2
          go_roundw
          case rel => exact ⟨k + 1, by go_num, by omega, HS⟩
          case measure => simp [intOf]; omega
    · obtain rfl : k = n := by omega
      obtain ⟨d, HD⟩ : ∃ d, Hid (d = decide (k ≤ 12)) := ⟨_, rfl⟩
      have hd : decide ((k : Int) ≤ 12) = d := by rw [HD.out, decide_eq_decide]; omega
      have HRD : Hid (r = d) := by show _ = _; rw [HR.out, HE.out, HD.out]; rfl
      go_wp2
      go_ret
      exact ⟨by rw [HRD.out]; rfl, rfl⟩

set_option maxHeartbeats 8000000 in
set_option maxRecDepth 100000 in
theorem l07Line_any (T : ByteArray) (n : Nat) (w : World) (hn : T.size = n) (hm : n ≤ 12) : Calls Try.prog 61 #[.string T] w fun e w' => ∃ (a : Option Addr) (cap : Nat), e = .returned (gv ((n + 1 : Nat) : Int) a n cap) ∧ Hid (EdgesIn w.heap.size w'.heap.size w' a (lineE T n)) ∧ Hid (Below w.heap.size w w') := by
  have HN : Hid (T.size = n) := hn
  have hsz : (T.size : Int) = (n : Int) := by rw [hn]
  clear hn
  obtain ⟨i0, hi0, hz0, hz1, hz2⟩ := info_parts Try.info76
  obtain ⟨B, HB⟩ : ∃ B, Hid (B = w.heap.size) := ⟨_, rfl⟩
  obtain ⟨W, HW⟩ : ∃ W, Hid (W = (w.alloc (.cells #[.int .i64 0, .slice none 0 0] 26)).alloc (.cells #[.int .i64 ((n : Int) + 1), .slice none 0 0] 26)) := ⟨_, rfl⟩
  have HBW : Hid (Below w.heap.size w W) := by rw [HW.out]; exact below2 w _ _
  have HSW : Hid (W.heap.size = B + 2) := by rw [HW.out, HB.out]; show _ = _; simp
  have H0 : Hid (Blk W B 2 (fun i => if i = 0 then .int .i64 0 else .slice none 0 0)) := by rw [HW.out]; exact (blk_two w B HB.out _ _ _).alloc _
  have H1 : Hid (Blk W (B + 1) 2 (fun i => if i = 0 then .int .i64 ((n : Int) + 1) else .slice none 0 0)) := by rw [HW.out]; exact blk_two _ (B + 1) (by rw [HB.out]; simp) _ _ _
  go_enter Try.func61, Try.ntmps61
  go_upto_region 2 with fail
  rw [← HB.out, ← HW.out]
  clear HW
  go_wp2
  go_loopw [4] (fun i wr => ∃ (k : Nat) (v : Value), i = .int .i64 k ∧ k ≤ n ∧ Hid (Blk wr B 2 (fun i => if i = 0 then .int .i64 0 else .slice none 0 0)) ∧ Hid (Blk wr (B + 1) 2 (fun i => if i = 0 then .int .i64 ((n : Int) + 1) else v)) ∧ Hid (wr.ownsRow (B + 2) 76 3 v k (ecells (lineE T k))) ∧ Hid (Below w.heap.size w wr) ∧ Hid (B + 2 ≤ wr.heap.size)) (fun i _ => n - (intOf i).toNat)
  case atStart => exact ⟨0, _, rfl, by omega, H0, H1, ⟨rfl, .inl ⟨rfl, rfl⟩⟩, HBW, by rw [← HSW.out]; exact Nat.le_refl _⟩
  case round =>
    obtain ⟨k, v, rfl, hk, HR0, HR1, HO, HL, HSZ⟩ := hrel
    by_cases hlt : k < n
    · have hlt1 : (k : Int) < (n : Int) := by omega
      have hlt0 : (0 : Int) ≤ (k : Int) := by omega
      have hkT : k < T.size := by rw [HN.out]; exact hlt
      have hk2 : (k : Int) < (T.size : Int) := by omega
      have hw : IntKind.i64.wrap ((k : Int) + 1) = (k : Int) + 1 := by simp [IntKind.wrap, IntKind.bits, IntKind.signed]; omega
      obtain ⟨b, HBY⟩ : ∃ b : Nat, Hid (b = bt T k) := ⟨_, rfl⟩
      have hbt : ((T[k]'hkT).toNat : Nat) = b := by rw [HBY.out, bt_lt hkT]
      obtain ⟨c0, c1⟩ := blk_pair_cells HR1.out
      obtain ⟨E, HE⟩ : ∃ E, Hid (E = wr.heap.size) := ⟨_, rfl⟩
      obtain ⟨V, HV⟩ : ∃ V, Hid (V = wr.alloc (.cells #[.int .i64 (k : Int), .int .u8 (b : Int), .int .i64 ((k : Int) + 1)] 76)) := ⟨_, rfl⟩
      have HBV : Hid (Below wr.heap.size wr V) := by rw [HV.out]; exact below1 _ _
      have hsx1 : wr.drew.cell? ⟨B + 1, 1, none⟩ = some v := c1
      have hsx2 : V.drew.cell? ⟨B + 1, 1, none⟩ = some v := (blk_pair_cells (HR1.out.of_block (HBV.out.block _ HR1.out.lt))).2
      have h1 : V.ownsRow (B + 2) 76 3 v k (ecells (lineE T k)) := by rw [HV.out]; exact HO.out.alloc _
      have HNW : Hid (∀ j u, [Value.int .i64 (k : Int), .int .u8 (b : Int), .int .i64 ((k : Int) + 1)][j]? = some u → V.drew.cell? ((⟨E, 0, none⟩ : Addr).add j) = some u) := by
        rw [HV.out, HE.out]; exact news_three wr _ _ _ _
      have HGB : Hid (∀ w6, (V.drew).grownBy w6 v.ownBlock → Below (B + 2) V w6) := fun w6 h => (Below.refl _ _).drew.grown h (by have h1 := HSZ.out; have h2 := HBV.out.size; have h3 : V.drew.heap.size = V.heap.size := rfl; omega) (fun k hk => (HO.out.lt k hk).1)
      have hlen : (ecells (lineE T k)).length = k * 3 := by simp [ecells, lineE_len]
      have HEND : Hid (∀ (w6 : World) (g5 cap5 : Nat), Below (B + 2) V w6 → w6.ownsRow (B + 2) 76 3 (.slice (some ⟨g5, 0, none⟩) (k + 1) cap5) (k + 1) (ecells (lineE T k) ++ [.int .i64 (k : Int), .int .u8 (b : Int), .int .i64 ((k : Int) + 1)]) →
          ∃ W6, W6 = w6.setCell ⟨B + 1, 1, none⟩ (.slice (some ⟨g5, 0, none⟩) (k + 1) cap5) ∧ Hid (Blk W6 B 2 (fun i => if i = 0 then .int .i64 0 else .slice none 0 0)) ∧ Hid (Blk W6 (B + 1) 2 (fun i => if i = 0 then .int .i64 ((n : Int) + 1) else .slice (some ⟨g5, 0, none⟩) (k + 1) cap5)) ∧ Hid (W6.ownsRow (B + 2) 76 3 (.slice (some ⟨g5, 0, none⟩) (k + 1) cap5) (k + 1) (ecells (lineE T (k + 1)))) ∧ Hid (Below w.heap.size w W6) ∧ Hid (B + 2 ≤ W6.heap.size)) := by
        intro w6 g5 cap5 hb6 ho6
        have hA : Below (B + 2) wr w6 := (HBV.out.mono (by have := HSZ.out; omega)).mono (Nat.le_refl _) |>.trans hb6
        refine ⟨_, rfl, ?_, ?_, ?_, ?_, ?_⟩
        · exact (HR0.out.of_block (hA.block B (by omega))).of_block (Below.heap_setCell _ _ _ _ (by simp))
        · refine (Blk.set (HR1.out.of_block (hA.block (B + 1) (by omega))) 1 (by omega) _).congr fun i hi => ?_
          rcases i with _ | _ | i
          · rfl
          · rfl
          · omega
        · refine owns_set ?_ (by omega)
          rw [lineE_succ, ecells_snoc, ← HBY.out]
          exact ho6
        · exact (HL.out.trans (hA.mono (by have := HB.out; omega))).setCell (by show _ ≤ B + 1; have := HB.out; omega) _
        · have := hA.size; have := HSZ.out; show _ ≤ _; simp; omega
      go_wp2_with fail
      refine wp_region_held_drew (S := fun _ => True) (by kernel_rfl) trivial (fun hHeld => ?_)
      refine wpAnyH_take (i := 0) (oi := { dst := some 15, op := Go.Op.fieldAddr 26 (Go.Operand.tmp 3) 1, type := 0, pos := "l07_nfa.go:41", after := #[], guard := none }) (v := ?_) rfl (by kernel_rfl) (by kernel_rfl) (by kernel_rfl) (fun _ _ _ h => h) (Or.inl ⟨by kernel_rfl, ?_⟩) (by assumption) ?_
      rotate_left
      · intro w hSw; (try dsimp only at hSw); go_simp; try with_reducible rfl
      simp only [Act.put, List.setIfInBounds_toArray, List.set_cons_zero, List.set_cons_succ]
      refine wpAnyH_take (i := 2) (oi := { dst := some 17, op := Go.Op.move (Go.Operand.tmp 4), type := 3, pos := "l07_nfa.go:41", after := #[], guard := none }) (v := ?_) rfl (by kernel_rfl) (by kernel_rfl) (by kernel_rfl) (fun _ _ _ h => h) (Or.inl ⟨by kernel_rfl, ?_⟩) (by assumption) ?_
      rotate_left
      · intro w hSw; (try dsimp only at hSw); go_simp; try with_reducible rfl
      simp only [Act.put, List.setIfInBounds_toArray, List.set_cons_zero, List.set_cons_succ]
      refine wpAnyH_take (i := 3) (oi := { dst := some 18, op := Go.Op.move (Go.Operand.tmp 0), type := 9, pos := "l07_nfa.go:41", after := #[], guard := none }) (v := ?_) rfl (by kernel_rfl) (by kernel_rfl) (by kernel_rfl) (fun _ _ _ h => h) (Or.inl ⟨by kernel_rfl, ?_⟩) (by assumption) ?_
      rotate_left
      · intro w hSw; (try dsimp only at hSw); go_simp; try with_reducible rfl
      simp only [Act.put, List.setIfInBounds_toArray, List.set_cons_zero, List.set_cons_succ]
      refine wpAnyH_take (i := 4) (oi := { dst := some 19, op := Go.Op.move (Go.Operand.tmp 4), type := 3, pos := "l07_nfa.go:41", after := #[], guard := none }) (v := ?_) rfl (by kernel_rfl) (by kernel_rfl) (by kernel_rfl) (fun _ _ _ h => h) (Or.inl ⟨by kernel_rfl, ?_⟩) (by assumption) ?_
      rotate_left
      · intro w hSw; (try dsimp only at hSw); go_simp; try with_reducible rfl
      simp only [Act.put, List.setIfInBounds_toArray, List.set_cons_zero, List.set_cons_succ]
      refine wpAnyH_take (i := 5) (oi := { dst := some 20, op := Go.Op.index 9 (Go.Operand.tmp 18) (Go.Operand.tmp 19), type := 5, pos := "l07_nfa.go:41", after := #[{ on := 3, ground := Go.Ground.data }, { on := 4, ground := Go.Ground.data }], guard := none }) (v := ?_) rfl (by kernel_rfl) (by kernel_rfl) (by kernel_rfl) (fun _ _ _ h => h) (Or.inl ⟨by kernel_rfl, ?_⟩) (by assumption) ?_
      rotate_left
      · intro w hSw; (try dsimp only at hSw); go_simp; try with_reducible rfl
      simp only [Act.put, List.setIfInBounds_toArray, List.set_cons_zero, List.set_cons_succ]
      refine wpAnyH_take (i := 6) (oi := { dst := some 21, op := Go.Op.move (Go.Operand.tmp 4), type := 3, pos := "l07_nfa.go:41", after := #[], guard := none }) (v := ?_) rfl (by kernel_rfl) (by kernel_rfl) (by kernel_rfl) (fun _ _ _ h => h) (Or.inl ⟨by kernel_rfl, ?_⟩) (by assumption) ?_
      rotate_left
      · intro w hSw; (try dsimp only at hSw); go_simp; try with_reducible rfl
      simp only [Act.put, List.setIfInBounds_toArray, List.set_cons_zero, List.set_cons_succ]
      refine wpAnyH_take (i := 7) (oi := { dst := some 22, op := Go.Op.binOp Go.BinOp.add 3 (Go.Operand.tmp 21) (Go.Operand.const (Go.Value.int Go.IntKind.i64 1)) 3, type := 3, pos := "l07_nfa.go:41", after := #[{ on := 6, ground := Go.Ground.data }], guard := none }) (v := ?_) rfl (by kernel_rfl) (by kernel_rfl) (by kernel_rfl) (fun _ _ _ h => h) (Or.inl ⟨by kernel_rfl, ?_⟩) (by assumption) ?_
      rotate_left
      · intro w hSw; (try dsimp only at hSw); go_simp; try with_reducible rfl
      simp only [Act.put, List.setIfInBounds_toArray, List.set_cons_zero, List.set_cons_succ]
      refine wpAnyH_take (i := 8) (oi := { dst := some 23, op := Go.Op.build 76 #[(0, Go.Operand.tmp 17), (1, Go.Operand.tmp 20), (2, Go.Operand.tmp 22)], type := 76, pos := "l07_nfa.go:41", after := #[{ on := 2, ground := Go.Ground.data }, { on := 5, ground := Go.Ground.data }, { on := 7, ground := Go.Ground.data }], guard := none }) (v := ?_) rfl (by kernel_rfl) (by kernel_rfl) (by kernel_rfl) (fun _ _ _ h => h) (Or.inl ⟨by kernel_rfl, ?_⟩) (by assumption) ?_
      rotate_left
      · intro w hSw; (try dsimp only at hSw); go_simp; try with_reducible rfl
      simp only [Act.put, List.setIfInBounds_toArray, List.set_cons_zero, List.set_cons_succ]
      refine wpAnyH_ready (rs := [1, 9]) (by kernel_rfl) (by simp) ?_
      refine AllReadyH.cons (o := { dst := some 16, op := Go.Op.load 24 (Go.Operand.tmp 15), type := 24, pos := "l07_nfa.go:41", after := #[{ on := 0, ground := Go.Ground.data }], guard := none }) rfl (fun K hK => ?_) ?_
      · go_simp
        refine hK.out _ _ trivial (fun hHeld => ?_)
        clear hK K
        try simp only [Act.put, List.setIfInBounds_toArray, List.set_cons_zero, List.set_cons_succ]
        refine wpAnyH_ready (rs := [9]) (by kernel_rfl) (by simp) ?_
        refine AllReadyH.cons (o := { dst := some 24, op := Go.Op.buildSlice 24 1 #[(0, Go.Operand.tmp 23)], type := 24, pos := "l07_nfa.go:41", after := #[{ on := 8, ground := Go.Ground.data }], guard := none }) rfl (fun K hK => ?_) ?_
        · go_simp
          try rw [hbt]
          rw [← HE.out, ← HV.out]
          refine hK.out _ _ trivial (fun hHeld => ?_)
          clear hK K
          try simp only [Act.put, List.setIfInBounds_toArray, List.set_cons_zero, List.set_cons_succ]
          refine wpAnyH_ready (rs := [10]) (by kernel_rfl) (by simp) ?_
          refine AllReadyH.cons (o := { dst := some 25, op := Go.Op.call { callee := Go.Callee.builtin Go.Builtin.append, args := #[Go.Operand.tmp 16, Go.Operand.tmp 24], argTypes := #[24, 24] }, type := 24, pos := "l07_nfa.go:41", after := #[{ on := 1, ground := Go.Ground.data }, { on := 9, ground := Go.Ground.data }], guard := none }) rfl (fun K hK => ?_) ?_
          · refine step_append_lies _ rfl (.tmp 16) (.tmp 24) 24 rfl (B + 2) 76 i0 _ 3 24 Try.underlying24 hi0 hz0 hz1 hz2 rfl (by decide) _ k (ecells (lineE T k)) rfl (by exact h1.drew) ⟨E, 0, none⟩ 1 1 [.int .i64 (k : Int), .int .u8 (b : Int), .int .i64 ((k : Int) + 1)] rfl rfl (by exact HNW.out) (by simp [Value.oneCell']) (by decide) (by unfold maxLen; omega) (by omega) (by have h3 : V.drew.heap.size = V.heap.size := rfl; have := HSZ.out; have := HBV.out.size; omega) _ rfl ?_; intro g5 cap5 w6 hown5 hgrow5 hloc5 hg5; have hb6 := HGB.out w6 hgrow5; have HR6 : Blk w6 (B + 1) 2 (fun i => if i = 0 then .int .i64 ((n : Int) + 1) else v) := (HR1.out.of_block (HBV.out.block _ HR1.out.lt)).of_block (hb6.block _ (by omega)); have hc6 := (blk_pair_cells HR6).2; have hf6 := Blk.frozen HR6 1; obtain ⟨W6, hW6, hE0, hE1, hE2, hE3, hE4⟩ := HEND.out w6 g5 cap5 hb6 hown5
            refine hK.out _ _ trivial (fun hHeld => ?_)
            clear hK K
            try simp only [Act.put, List.setIfInBounds_toArray, List.set_cons_zero, List.set_cons_succ]
            refine wpAnyH_take (i := 11) (oi := { dst := some 26, op := Go.Op.fieldAddr 26 (Go.Operand.tmp 3) 1, type := 0, pos := "l07_nfa.go:41", after := #[{ on := 0, ground := Go.Ground.phase }, { on := 1, ground := Go.Ground.phase }, { on := 2, ground := Go.Ground.phase }, { on := 3, ground := Go.Ground.phase }, { on := 4, ground := Go.Ground.phase }, { on := 5, ground := Go.Ground.phase }, { on := 6, ground := Go.Ground.phase }, { on := 7, ground := Go.Ground.phase }, { on := 8, ground := Go.Ground.phase }, { on := 9, ground := Go.Ground.phase }, { on := 10, ground := Go.Ground.phase }], guard := none }) (v := ?_) rfl (by kernel_rfl) (by kernel_rfl) (by kernel_rfl) (fun _ _ _ h => h) (Or.inl ⟨by kernel_rfl, ?_⟩) (by assumption) ?_
            rotate_left
            · intro w hSw; (try dsimp only at hSw); go_simp; try with_reducible rfl
            simp only [Act.put, List.setIfInBounds_toArray, List.set_cons_zero, List.set_cons_succ]
            refine wpAnyH_ready (rs := [12]) (by kernel_rfl) (by simp) ?_
            refine AllReadyH.cons (o := { dst := none, op := Go.Op.store 24 (Go.Operand.tmp 26) (Go.Operand.tmp 25), type := 0, pos := "l07_nfa.go:41", after := #[{ on := 11, ground := Go.Ground.data }, { on := 10, ground := Go.Ground.data }, { on := 10, ground := Go.Ground.chain }, { on := 0, ground := Go.Ground.phase }, { on := 1, ground := Go.Ground.phase }, { on := 2, ground := Go.Ground.phase }, { on := 3, ground := Go.Ground.phase }, { on := 4, ground := Go.Ground.phase }, { on := 5, ground := Go.Ground.phase }, { on := 6, ground := Go.Ground.phase }, { on := 7, ground := Go.Ground.phase }, { on := 8, ground := Go.Ground.phase }, { on := 9, ground := Go.Ground.phase }, { on := 10, ground := Go.Ground.phase }], guard := none }) rfl (fun K hK => ?_) ?_
            · go_simp
              refine hK.out _ _ trivial (fun hHeld => ?_)
              clear hK K
              try simp only [Act.put, List.setIfInBounds_toArray, List.set_cons_zero, List.set_cons_succ]
              refine wpAnyH_done (by kernel_rfl) ?_ _
              clear hHeld
              go_wp2
              rw [← hW6]
              go_roundw
              case rel => exact ⟨k + 1, _, by go_num, by omega, hE0, hE1, hE2, hE3, hE4⟩
              case measure => simp [intOf]; omega
            exact AllReadyH.nil
          exact AllReadyH.nil
        exact AllReadyH.nil
      refine AllReadyH.cons (o := { dst := some 24, op := Go.Op.buildSlice 24 1 #[(0, Go.Operand.tmp 23)], type := 24, pos := "l07_nfa.go:41", after := #[{ on := 8, ground := Go.Ground.data }], guard := none }) rfl (fun K hK => ?_) ?_
      · go_simp
        try rw [hbt]
        rw [← HE.out, ← HV.out]
        refine hK.out _ _ trivial (fun hHeld => ?_)
        clear hK K
        try simp only [Act.put, List.setIfInBounds_toArray, List.set_cons_zero, List.set_cons_succ]
        refine wpAnyH_ready (rs := [1]) (by kernel_rfl) (by simp) ?_
        refine AllReadyH.cons (o := { dst := some 16, op := Go.Op.load 24 (Go.Operand.tmp 15), type := 24, pos := "l07_nfa.go:41", after := #[{ on := 0, ground := Go.Ground.data }], guard := none }) rfl (fun K hK => ?_) ?_
        · go_simp
          refine hK.out _ _ trivial (fun hHeld => ?_)
          clear hK K
          try simp only [Act.put, List.setIfInBounds_toArray, List.set_cons_zero, List.set_cons_succ]
          refine wpAnyH_ready (rs := [10]) (by kernel_rfl) (by simp) ?_
          refine AllReadyH.cons (o := { dst := some 25, op := Go.Op.call { callee := Go.Callee.builtin Go.Builtin.append, args := #[Go.Operand.tmp 16, Go.Operand.tmp 24], argTypes := #[24, 24] }, type := 24, pos := "l07_nfa.go:41", after := #[{ on := 1, ground := Go.Ground.data }, { on := 9, ground := Go.Ground.data }], guard := none }) rfl (fun K hK => ?_) ?_
          · refine step_append_lies _ rfl (.tmp 16) (.tmp 24) 24 rfl (B + 2) 76 i0 _ 3 24 Try.underlying24 hi0 hz0 hz1 hz2 rfl (by decide) _ k (ecells (lineE T k)) rfl (by exact h1.drew) ⟨E, 0, none⟩ 1 1 [.int .i64 (k : Int), .int .u8 (b : Int), .int .i64 ((k : Int) + 1)] rfl rfl (by exact HNW.out) (by simp [Value.oneCell']) (by decide) (by unfold maxLen; omega) (by omega) (by have h3 : V.drew.heap.size = V.heap.size := rfl; have := HSZ.out; have := HBV.out.size; omega) _ rfl ?_; intro g5 cap5 w6 hown5 hgrow5 hloc5 hg5; have hb6 := HGB.out w6 hgrow5; have HR6 : Blk w6 (B + 1) 2 (fun i => if i = 0 then .int .i64 ((n : Int) + 1) else v) := (HR1.out.of_block (HBV.out.block _ HR1.out.lt)).of_block (hb6.block _ (by omega)); have hc6 := (blk_pair_cells HR6).2; have hf6 := Blk.frozen HR6 1; obtain ⟨W6, hW6, hE0, hE1, hE2, hE3, hE4⟩ := HEND.out w6 g5 cap5 hb6 hown5
            refine hK.out _ _ trivial (fun hHeld => ?_)
            clear hK K
            try simp only [Act.put, List.setIfInBounds_toArray, List.set_cons_zero, List.set_cons_succ]
            refine wpAnyH_take (i := 11) (oi := { dst := some 26, op := Go.Op.fieldAddr 26 (Go.Operand.tmp 3) 1, type := 0, pos := "l07_nfa.go:41", after := #[{ on := 0, ground := Go.Ground.phase }, { on := 1, ground := Go.Ground.phase }, { on := 2, ground := Go.Ground.phase }, { on := 3, ground := Go.Ground.phase }, { on := 4, ground := Go.Ground.phase }, { on := 5, ground := Go.Ground.phase }, { on := 6, ground := Go.Ground.phase }, { on := 7, ground := Go.Ground.phase }, { on := 8, ground := Go.Ground.phase }, { on := 9, ground := Go.Ground.phase }, { on := 10, ground := Go.Ground.phase }], guard := none }) (v := ?_) rfl (by kernel_rfl) (by kernel_rfl) (by kernel_rfl) (fun _ _ _ h => h) (Or.inl ⟨by kernel_rfl, ?_⟩) (by assumption) ?_
            rotate_left
            · intro w hSw; (try dsimp only at hSw); go_simp; try with_reducible rfl
            simp only [Act.put, List.setIfInBounds_toArray, List.set_cons_zero, List.set_cons_succ]
            refine wpAnyH_ready (rs := [12]) (by kernel_rfl) (by simp) ?_
            refine AllReadyH.cons (o := { dst := none, op := Go.Op.store 24 (Go.Operand.tmp 26) (Go.Operand.tmp 25), type := 0, pos := "l07_nfa.go:41", after := #[{ on := 11, ground := Go.Ground.data }, { on := 10, ground := Go.Ground.data }, { on := 10, ground := Go.Ground.chain }, { on := 0, ground := Go.Ground.phase }, { on := 1, ground := Go.Ground.phase }, { on := 2, ground := Go.Ground.phase }, { on := 3, ground := Go.Ground.phase }, { on := 4, ground := Go.Ground.phase }, { on := 5, ground := Go.Ground.phase }, { on := 6, ground := Go.Ground.phase }, { on := 7, ground := Go.Ground.phase }, { on := 8, ground := Go.Ground.phase }, { on := 9, ground := Go.Ground.phase }, { on := 10, ground := Go.Ground.phase }], guard := none }) rfl (fun K hK => ?_) ?_
            · go_simp
              refine hK.out _ _ trivial (fun hHeld => ?_)
              clear hK K
              try simp only [Act.put, List.setIfInBounds_toArray, List.set_cons_zero, List.set_cons_succ]
              refine wpAnyH_done (by kernel_rfl) ?_ _
              clear hHeld
              go_wp2
              rw [← hW6]
              go_roundw
              case rel => exact ⟨k + 1, _, by go_num, by omega, hE0, hE1, hE2, hE3, hE4⟩
              case measure => simp [intOf]; omega
            exact AllReadyH.nil
          exact AllReadyH.nil
        exact AllReadyH.nil
      exact AllReadyH.nil
    · obtain rfl : k = n := by omega
      obtain ⟨c0, c1⟩ := blk_pair_cells HR1.out
      obtain ⟨d0, d1⟩ := blk_pair_cells HR0.out
      have f0 := Blk.frozen HR0.out 0
      have f1 := Blk.frozen HR0.out 1
      obtain ⟨a, cap, rfl, hae⟩ : ∃ a cap, v = .slice a k cap ∧ EdgesIn (B + 2) wr.heap.size wr a (lineE T k) := by
        have hlen : (ecells (lineE T k)).length = k * 3 := by simp [ecells, lineE_len]
        rcases HO.out.2 with ⟨e, h0⟩ | ⟨g, cap, cur, e, hg, hb, _⟩
        · subst e
          have : k = 0 := h0
          subst this
          exact ⟨none, 0, rfl, .inl rfl⟩
        · subst e
          exact ⟨_, cap, rfl, .inr ⟨g, 0, rfl, hg, (Array.getElem?_eq_some_iff.1 hb).1, fun i hi => by
            have hq := blk_own HO.out
            have hi' : i < k := by rwa [lineE_len] at hi
            have hx : ∀ j, j < k * 3 → (ecells (lineE T k)).getD j (.int .i64 0) = ef (lineE T k) j := fun j hj => by
              rw [List.getD, ecells_get (by rw [lineE_len]; exact hj)]; rfl
            rw [Nat.zero_add]
            refine ⟨?_, ?_, ?_⟩
            · rw [hq.cell (i := i * 3) (by omega), hx _ (by omega), ef0]
            · rw [hq.cell (i := i * 3 + 1) (by omega), hx _ (by omega), ef1]
            · rw [hq.cell (i := i * 3 + 2) (by omega), hx _ (by omega), ef2]⟩⟩
      have HAE : Hid (EdgesIn (B + 2) wr.heap.size wr a (lineE T k)) := hae
      clear hae
      go_wp2
      refine bodyPost_ret (v := gv ((k : Int) + 1) a k cap) (by simp [results, Try.results61, go_sem, d0, d1]) rfl ?_
      refine ⟨a, cap, by simp, ?_, ?_⟩
      · have hk2 := HAE.out.kept (p := fun c => c = B) (((KeptP.refl (fun c => c = B) wr).setCell (j := 0) rfl (.int .i64 ((k : Int) + 1))).setCell (j := 1) rfl (.slice a k cap)) (Nat.le_refl _) (fun c h1 h2 h3 => by omega)
        exact hk2.wide (by have := HB.out; omega) (by simp)
      · exact (HL.out.setCell (by show _ ≤ B; have := HB.out; omega) _).setCell (by show _ ≤ B; have := HB.out; omega) _
end Go.Proofs.Ytgfioakidefkdaa

/-
  Which words a path takes: impl.PathTakes, spec.PathTakes.
-/
namespace Go.Proofs.Ytgfioakidefkdaa
open Go.RowKit

/-- whether a path takes a word of n bytes -/
def takesW (ps : List Pc) (T : ByteArray) (n : Nat) : Bool := okP ps && (wOk T n && decide (n ≤ 12)) && ldR (n + 1) (lineE T n) ps 0 n
/-- a relation goes no further than another -/
def Sub (n : Nat) (A : Rl) (Q : Nat → Nat → Prop) : Prop := ∀ i j, i < n → j < n → A i j = true → Q i j
theorem Sub.beh {n : Nat} {A B : Rl} {Q : Nat → Nat → Prop} (ht : ∀ i j k, Q i j → Q j k → Q i k) (h1 : Sub n A Q) (h2 : Sub n B Q) : Sub n (behR n A B) Q := by
  intro i j hi hj h
  obtain ⟨k, hk, a, b⟩ := behR_iff.1 h
  exact ht i k j (h1 i k hi hk a) (h2 k j hk hj b)
theorem Sub.or {n : Nat} {A B : Rl} {Q : Nat → Nat → Prop} (h1 : Sub n A Q) (h2 : Sub n B Q) : Sub n (orR A B) Q := by
  intro i j hi hj h
  rcases orR_iff.1 h with h | h
  · exact h1 i j hi hj h
  · exact h2 i j hi hj h
theorem Sub.id {n : Nat} {Q : Nat → Nat → Prop} (hr : ∀ i, Q i i) : Sub n idR Q := by
  intro i j _ _ h
  obtain rfl := idR_iff.1 h
  exact hr i
theorem Sub.no {n : Nat} {Q : Nat → Nat → Prop} : Sub n noR Q := by intro i j _ _ h; cases h
theorem TC.sub {n : Nat} {A : Rl} {Q : Nat → Nat → Prop} (ht : ∀ i j k, Q i j → Q j k → Q i k) (h : Sub n A Q) {i j : Nat} (t : TC n A i j) : i < n → j < n → Q i j := by
  induction t with
  | one h1 => exact fun hi hj => h _ _ hi hj h1
  | more _ hk h2 ih => exact fun hi hj => ht _ _ _ (ih hi hk) (h _ _ hk hj h2)
theorem Sub.plus {n : Nat} {A : Rl} {Q : Nat → Nat → Prop} (ht : ∀ i j k, Q i j → Q j k → Q i k) (h : Sub n A Q) : Sub n (plusR n A) Q := fun _ _ hi hj h1 => TC.sub ht h ((plusR_iff hj).1 h1) hi hj
theorem Sub.fold {n : Nat} {all : List Rl} {Q : Nat → Nat → Prop} (ht : ∀ i j k, Q i j → Q j k → Q i k) : ∀ (ks : List Int) {A : Rl}, Sub n A Q → (∀ z ∈ ks, Sub n (getR all z) Q) → Sub n (ks.foldl (fun A k => behR n A (getR all k)) A) Q
  | [], _, h, _ => h
  | k :: ks, A, h, hk => Sub.fold ht ks (Sub.beh ht h (hk k (by simp))) (fun z hz => hk z (by simp [hz]))
theorem Sub.alt {n : Nat} {all : List Rl} {Q : Nat → Nat → Prop} : ∀ (ks : List Int) {A : Rl}, Sub n A Q → (∀ z ∈ ks, Sub n (getR all z) Q) → Sub n (ks.foldl (fun A k => orR A (getR all k)) A) Q
  | [], _, h, _ => h
  | k :: ks, A, h, hk => Sub.alt ks (Sub.or h (hk k (by simp))) (fun z hz => hk z (by simp [hz]))
/-- the bytes from one place to another are a to d -/
def Lts (T : ByteArray) (i j : Nat) : Prop := i ≤ j ∧ ∀ m, i ≤ m → m < j → isL ((bt T m : Nat) : Int) = true
theorem Lts.refl (T : ByteArray) (i : Nat) : Lts T i i := ⟨Nat.le_refl _, fun m h1 h2 => by omega⟩
theorem Lts.trans {T : ByteArray} {i j k : Nat} (h1 : Lts T i j) (h2 : Lts T j k) : Lts T i k := ⟨Nat.le_trans h1.1 h2.1, fun m a b => by
  rcases Nat.lt_or_ge m j with h | h
  · exact h1.2 m a h
  · exact h2.2 m h b⟩
theorem pc_sub {T : ByteArray} {n : Nat} {all : List Rl} {x : Pc} {k : Nat} (hf : formOk x = true) (hk : kidsOk k x.2.2 = true) (ha : ∀ i, i < k → Sub (n + 1) (all.getD i noR) (Lts T)) : Sub (n + 1) (pcR (n + 1) (lineE T n) all x) (Lts T) := by
  have ht : ∀ i j k, Lts T i j → Lts T j k → Lts T i k := fun _ _ _ h1 h2 => h1.trans h2
  obtain ⟨p, c, ks⟩ := x
  dsimp only at hk
  have hz : ∀ z ∈ ks, Sub (n + 1) (getR all z) (Lts T) := by
    intro z hz
    have := List.all_eq_true.1 hk z hz
    simp only [Bool.and_eq_true, decide_eq_true_eq] at this
    exact ha z.toNat (by omega)
  rcases formOk_cases hf with ⟨rfl, h3, h4⟩ | ⟨rfl, rfl, h4⟩ | ⟨rfl, rfl, h4⟩ | ⟨rfl, rfl, h4⟩ | ⟨rfl, rfl, h4⟩ | ⟨rfl, rfl, h4⟩
  · intro i j hi hj h
    have h5 : stepR (lineE T n) c i j = true := h
    obtain ⟨h6, h7, h8⟩ := line_step.1 h5
    refine ⟨by omega, fun m a b => ?_⟩
    obtain rfl : m = i := by omega
    rw [h8]; exact h3
  · show Sub (n + 1) (rowR (n + 1) all ks) (Lts T)
    match ks, hz, h4 with
    | k :: r, hz, _ => exact Sub.fold ht r (hz k (by simp)) (fun z h => hz z (by simp [h]))
  · exact Sub.alt ks Sub.no hz
  · exact Sub.or (Sub.plus ht (hz _ (by match ks, h4 with | [k], _ => simp))) (Sub.id (Lts.refl T))
  · exact Sub.plus ht (hz _ (by match ks, h4 with | [k], _ => simp))
  · exact Sub.or (hz _ (by match ks, h4 with | [k], _ => simp)) (Sub.id (Lts.refl T))
theorem rel_sub {T : ByteArray} {n : Nat} {ps : List Pc} (hok : okP ps = true) : ∀ k, k ≤ ps.length → ∀ i, i < k → Sub (n + 1) ((relTo (n + 1) (lineE T n) ps k).getD i noR) (Lts T)
  | 0, _, i, hi => absurd hi (by omega)
  | k + 1, hk, i, hi => by
    have hat := okP_at hok (k := k) (by omega)
    by_cases e : i = k
    · subst e
      rw [relTo_last]
      exact pc_sub hat.1 hat.2 (rel_sub hok i (by omega))
    · rw [relTo_old (by omega)]
      exact rel_sub hok k (by omega) i (by omega)
theorem ld_word {T : ByteArray} {n : Nat} {ps : List Pc} (hok : okP ps = true) (h : ldR (n + 1) (lineE T n) ps 0 n = true) : wOk T n = true := by
  have hl := (okP_len hok).1
  have h2 := (rel_sub (T := T) (n := n) hok ps.length (Nat.le_refl _) (ps.length - 1) (by omega)) 0 n (by omega) (by omega) h
  exact List.all_eq_true.2 fun i hi => h2.2 i (Nat.zero_le _) (List.mem_range.1 hi)

set_option maxHeartbeats 2000000 in
set_option maxRecDepth 100000 in
theorem pathTakes_any (lo2 hi2 : Nat) (b : Option Addr) (m mc : Nat) (ps : List Pc) (T : ByteArray) (n : Nat) (r : Bool) (w : World) (hn : T.size = n) (hnn : n ≤ 1048576)
    (hb : PathIn lo2 hi2 w b ps) (hh2 : hi2 ≤ w.heap.size) (hn2 : ps.length = m) (hm2 : m ≤ 1048576) (hq : ∀ i, i < m → (pat ps i).2.2.length ≤ 1048576) (hr : r = takesW ps T n) :
    Calls Try.prog 28 #[pv b m mc, .string T] w fun e w' => e = .returned (.bool r) ∧ Hid (Below w.heap.size w w') := by
  have HP : Hid (PathIn lo2 hi2 w b ps) := hb
  have HH2 : Hid (hi2 ≤ w.heap.size) := hh2
  have HN2 : Hid (ps.length = m) := hn2
  have HQ : Hid (∀ i, i < m → (pat ps i).2.2.length ≤ 1048576) := hq
  have HN : Hid (T.size = n) := hn
  have HR : Hid (r = takesW ps T n) := hr
  have hsz : (T.size : Int) = (n : Int) := by rw [hn]
  have hmf : ∀ (fn : Fn) (first cap : Array Value) (w : World), (Instr.makeFunc fn first cap).run Try.prog w = .ok (.func fn first cap) w := fun _ _ _ _ => rfl
  clear hb hh2 hn2 hq hn hr
  by_cases h12 : n ≤ 12
  · have hg : ¬ (12 : Int) < (n : Int) := by omega
    obtain ⟨B, HB⟩ : ∃ B, Hid (B = w.heap.size) := ⟨_, rfl⟩
    obtain ⟨W, HW⟩ : ∃ W, Hid (W = w.alloc (.cells #[.slice b m mc] 30)) := ⟨_, rfl⟩
    have HBW : Hid (Below w.heap.size w W) := by rw [HW.out]; exact below1 w _
    have HPB : Hid (Blk W B 1 (fun _ => .slice b m mc)) := by rw [HW.out]; exact blk_one w B HB.out _ _
    have q0 := HPB.out.cell (i := 0) (by omega)
    unfold pv
    go_enter Try.func28, Try.ntmps28
    go_upto_region 3 with fail
    rw [← HB.out, ← HW.out]
    clear HW
    go_wp2_with fail
    refine (leadsOfPath_any (lineE T n) (n + 1) lo2 hi2 b m mc ps _ W (by omega) (word_step T n W HN.out h12) (HP.out.below HBW.out HH2.out) (Nat.le_trans HH2.out HBW.out.size) HN2.out hm2 HQ.out).mono ?_
    rintro e w1 ⟨h, q, rfl, HQ1, HRE, HHL, HB1⟩
    have HBE1 : Hid (Below w.heap.size w w1) := HBW.out.trans (HB1.out.mono HBW.out.size)
    obtain ⟨P, HPP⟩ : ∃ P, Hid (P = w1.heap.size) := ⟨_, rfl⟩
    obtain ⟨V, HV⟩ : ∃ V, Hid (V = (w1.alloc (.cells #[.int .u16 0, .int .u16 0, .int .u16 0, .int .u16 0, .int .u16 0, .int .u16 0, .int .u16 0, .int .u16 0, .int .u16 0, .int .u16 0, .int .u16 0, .int .u16 0, .int .u16 0] 81)).setCells P 0 (lcells h)) := ⟨_, rfl⟩
    have HT1 : Hid ((w1.alloc (.cells #[.int .u16 0, .int .u16 0, .int .u16 0, .int .u16 0, .int .u16 0, .int .u16 0, .int .u16 0, .int .u16 0, .int .u16 0, .int .u16 0, .int .u16 0, .int .u16 0, .int .u16 0] 81)).there w1.heap.size 0 13) := (LBlk.zero w1 _ rfl _).there
    have HXV : Hid (LBlk V P h) := by rw [HV.out]; exact (LBlk.zero w1 P HPP.out _).put h
    have HBV : Hid (Below w.heap.size w V) := by rw [HV.out]; exact Below.setCells (by have := HPP.out; have := HBE1.out.size; omega) _ _ (HBE1.out.trans ((below1 w1 _).mono HBE1.out.size))
    clear q0
    go_upto_region 4 with (with_reducible refine wpList_here ?_; refine wpList_store_mid rfl 81 _ _ rfl w1.heap.size 0 (lcells h).toArray rfl rfl (by rw [lcells_size]; exact HT1.out) (by rw [lcells_size]; exact info_leads) (lcells_one _) ?_; dsimp only [Act.put])
    rw [← HPP.out]
    first | rw [← HV.out] | (rw [show _ = V from HV.out.symm])
    clear HV HT1
    rcases Bool.eq_false_or_eq_true q with hq | hq
    · subst hq
      have HOK : Hid (okP ps = true) := HQ1.out.symm
      have HREP : Hid (Rep (n + 1) h (ldR (n + 1) (lineE T n) ps)) := HRE.out rfl
      obtain ⟨y, HY⟩ : ∃ y, Hid (y = (h 0).testBit n) := ⟨_, rfl⟩
      have HRY : Hid (r = y) := by
        show _ = _
        have h1 := HREP.out 0 (by omega) n
        rw [HY.out, h1, HR.out]
        unfold takesW
        rw [HOK.out]
        rcases hz : ldR (n + 1) (lineE T n) ps 0 n with _ | _
        · simp
        · rw [ld_word HOK.out hz]; simp [h12]
      have cx := HXV.out.get (k := 0) (by omega)
      go_wp2_with fail
      refine (has_any (h 0) n y V (by omega) (HHL.out 0 (by omega)) HY.out).mono ?_
      rintro e w2 ⟨rfl, rfl⟩
      go_wp2
      go_ret
      exact ⟨by rw [HRY.out]; rfl, HBV⟩
    · subst hq
      have HRF : Hid (r = false) := by show _ = _; rw [HR.out]; unfold takesW; rw [← HQ1.out]; rfl
      go_wp2
      go_ret
      exact ⟨by rw [HRF.out]; rfl, HBV⟩
  · have hg : (12 : Int) < (n : Int) := by omega
    have HRF : Hid (r = false) := by show _ = _; rw [HR.out]; unfold takesW; simp [h12]
    unfold pv
    go_enter Try.func28, Try.ntmps28
    go_wp2
    go_ret
    exact ⟨by rw [HRF.out]; rfl, below1 w _⟩

set_option maxHeartbeats 4000000 in
set_option maxRecDepth 100000 in
theorem specTakes_any (lo2 hi2 : Nat) (b : Option Addr) (m mc : Nat) (ps : List Pc) (T : ByteArray) (n : Nat) (r : Bool) (w : World) (hn : T.size = n) (hnn : n ≤ 1048576)
    (hb : PathIn lo2 hi2 w b ps) (hh2 : hi2 ≤ w.heap.size) (hn2 : ps.length = m) (hm2 : m ≤ 1048576) (hq : ∀ i, i < m → (pat ps i).2.2.length ≤ 1048576) (hr : r = takesW ps T n) :
    Calls Try.prog 26 #[pv b m mc, .string T] w fun e w' => e = .returned (.bool r) ∧ Hid (Below w.heap.size w w') := by
  have HP : Hid (PathIn lo2 hi2 w b ps) := hb
  have HH2 : Hid (hi2 ≤ w.heap.size) := hh2
  have HN2 : Hid (ps.length = m) := hn2
  have HQ : Hid (∀ i, i < m → (pat ps i).2.2.length ≤ 1048576) := hq
  have HN : Hid (T.size = n) := hn
  have HR : Hid (r = takesW ps T n) := hr
  have hsz : (T.size : Int) = (n : Int) := by rw [hn]
  clear hb hh2 hn2 hq hn hr
  obtain ⟨B, HB⟩ : ∃ B, Hid (B = w.heap.size) := ⟨_, rfl⟩
  obtain ⟨W, HW⟩ : ∃ W, Hid (W = w.alloc (.cells #[.slice b m mc] 30)) := ⟨_, rfl⟩
  have HBW : Hid (Below w.heap.size w W) := by rw [HW.out]; exact below1 w _
  have HPB : Hid (Blk W B 1 (fun _ => .slice b m mc)) := by rw [HW.out]; exact blk_one w B HB.out _ _
  obtain ⟨u, HU⟩ : ∃ u, Hid (u = okP ps) := ⟨_, rfl⟩
  obtain ⟨v, HV⟩ : ∃ v, Hid (v = (wOk T n && decide (n ≤ 12))) := ⟨_, rfl⟩
  have HRR : Hid (r = (u && v && ldR (n + 1) (lineE T n) ps 0 n)) := by show _ = _; rw [HR.out, HU.out, HV.out]; rfl
  have q0 := HPB.out.cell (i := 0) (by omega)
  unfold pv
  go_enter Try.func26, Try.ntmps26
  go_upto_region 1 with fail
  rw [← HB.out, ← HW.out]
  clear HW
  go_wp2_with fail
  refine (specPathOk_any lo2 hi2 b m mc ps u W (HP.out.below HBW.out HH2.out) (Nat.le_trans HH2.out HBW.out.size) HN2.out hm2 HQ.out HU.out).mono ?_
  rintro e w1 ⟨rfl, HB1⟩
  have HBE1 : Hid (Below w.heap.size w w1) := HBW.out.trans (HB1.out.mono HBW.out.size)
  have HPB1 : Hid (Blk w1 B 1 (fun _ => .slice b m mc)) := HPB.out.of_block (HB1.out.block _ HPB.out.lt)
  clear q0
  rcases Bool.eq_false_or_eq_true u with hu | hu
  · subst hu
    go_wp2_with fail
    refine (l07Word_any T n v w1 HN.out hnn HV.out).mono ?_
    rintro e w2 ⟨rfl, rfl⟩
    rcases Bool.eq_false_or_eq_true v with hv | hv
    · subst hv
      have HWO : Hid (wOk T n = true ∧ n ≤ 12) := by
        have := HV.out.symm
        simp only [Bool.and_eq_true, decide_eq_true_eq] at this
        exact this
      have h12 : n ≤ 12 := HWO.out.2
      have HOK : Hid (okP ps = true) := HU.out.symm
      have hm60 := okP_len HOK.out
      rw [HN2.out] at hm60
      obtain ⟨mz, rfl⟩ : ∃ mz, m = mz + 1 := ⟨m - 1, by omega⟩
      obtain ⟨RR, HRL⟩ : ∃ R : Rl, Hid (R = ldR (n + 1) (lineE T n) ps) := ⟨_, rfl⟩
      have HRX : Hid (r = RR 0 n) := by show _ = _; rw [HRR.out, HRL.out]; rfl
      have q0 := HPB1.out.cell (i := 0) (by omega)
      have HC1 : Hid (∀ w0, Below w1.heap.size w1 w0 → Calls Try.prog 61 #[.string T] w0 fun e w' => ∃ (a : Option Addr) (cap : Nat), e = .returned (.agg #[.int .i64 ((n + 1 : Nat) : Int), .slice a n cap]) ∧ Hid (EdgesIn w1.heap.size w'.heap.size w' a (lineE T n)) ∧ Hid (Below w1.heap.size w1 w') ∧ w'.cell? ⟨B, 0, none⟩ = some (.slice b (mz + 1) mc)) := fun w0 h =>
        (l07Line_any T n w0 HN.out h12).mono fun _ w' ⟨a, cap, h1, h2, h3⟩ =>
          have h4 := h.trans (h3.out.mono h.size)
          ⟨a, cap, h1, h2.out.wide h.size (Nat.le_refl _), h4, cell_below q0 h4 (lt_of_cell q0)⟩
      have HC2 : Hid (∀ w0 (a : Option Addr) (cap : Nat), Below w1.heap.size w1 w0 → EdgesIn w1.heap.size w0.heap.size w0 a (lineE T n) → Calls Try.prog 60 #[.agg #[.int .i64 ((n + 1 : Nat) : Int), .slice a n cap], .agg #[.slice b (mz + 1) mc]] w0 fun e w' => ∃ v, e = .returned v ∧ Hid (AllIn w1.heap.size (n + 1) w' v (mz + 1) (relTo (n + 1) (lineE T n) ps (mz + 1))) ∧ Hid (Below w1.heap.size w1 w') ∧ w'.cell? ⟨B, 0, none⟩ = some (.slice b (mz + 1) mc)) := fun w0 a cap h he =>
        (l06Full_of w1.heap.size w0.heap.size (n + 1) a n cap (lineE T n) lo2 hi2 b (mz + 1) mc ps w0 he (Nat.le_refl _) (lineE_len T n) (by omega) (HP.out.below (HBE1.out.trans (h.mono HBE1.out.size)) HH2.out) (Nat.le_trans HH2.out (Nat.le_trans HBE1.out.size h.size)) HN2.out (by omega) HQ.out (by omega) (line_ok HWO.out.1) (fun k hk => okP_at HOK.out (by rw [HN2.out]; exact hk))).mono fun _ w' ⟨v, h1, h2, h3⟩ =>
          have h4 := h.trans (h3.out.mono h.size)
          ⟨v, h1, h2.out.wide h.size, h4, cell_below q0 h4 (lt_of_cell q0)⟩
      have hw1 : IntKind.i64.wrap ((n : Int) + 1) = ((n + 1 : Nat) : Int) := by simp [IntKind.wrap, IntKind.bits, IntKind.signed]; omega
      go_upto_region 4 with fail
      go_region_held3 (fun w' => w'.cell? ⟨B, 0, none⟩ = some (.slice b (mz + 1) mc)) (first | exact q0 | exact hk5 | exact hk6) (first | (go_at_call 61; refine (HC1.out _ ((Below.refl _ _).drew)).mono ?_; rintro e w5 ⟨a5, cap5, rfl, X5, B5, hk5⟩) | (go_at_call 60; refine (HC2.out _ _ _ B5.out X5.out).mono ?_; rintro e w6 ⟨v6, rfl, X6, B6, hk6⟩))
      all_goals
        obtain ⟨g, gc, pk, ck, rfl, hgl, hcl, hbk⟩ := X6.out.at (i := mz) (by omega)
        have hRe : (relTo (n + 1) (lineE T n) ps (mz + 1)).getD mz noR = RR := by
          rw [HRL.out]; unfold ldR; rw [HN2.out]; rfl
        rw [hRe] at hbk
        have hb0 := hbk.get (i := 0) (j := n) (by omega) (by omega)
        obtain ⟨NQ, HNQ⟩ : ∃ q, Hid (q = (n + 1) * (n + 1)) := ⟨_, rfl⟩
        rw [← HNQ.out] at hcl
        have hnq : n < NQ := by rw [HNQ.out]; exact Nat.lt_of_lt_of_le (Nat.lt_succ_self n) (Nat.le_mul_of_pos_right _ (Nat.succ_pos n))
        have hnqi : (n : Int) < (NQ : Int) := by omega
        rw [Nat.zero_mul, Nat.zero_add] at hb0
        obtain ⟨y, HY⟩ : ∃ y, Hid (y = RR 0 n) := ⟨_, rfl⟩
        rw [← HY.out] at hb0
        have HBE6 : Hid (Below w.heap.size w w6) := HBE1.out.trans (B6.out.mono HBE1.out.size)
        have hmz0 : (0 : Int) ≤ (mz : Int) := by omega
        have hmz1 : (mz : Int) < ((mz + 1 : Nat) : Int) := by omega
        have hn0 : (0 : Int) ≤ (n : Int) := by omega
        clear X6 X5 hRe
        go_wp2
        go_ret
        exact ⟨by rw [HRX.out]; first | rfl | (rw [← HY.out]; rfl), HBE6⟩
    · subst hv
      have HRF : Hid (r = false) := by show _ = _; rw [HRR.out]; rfl
      go_wp2
      go_ret
      exact ⟨by rw [HRF.out]; rfl, HBE1⟩
  · subst hu
    have HRF : Hid (r = false) := by show _ = _; rw [HRR.out]; rfl
    go_wp2
    go_ret
    exact ⟨by rw [HRF.out]; rfl, HBE1⟩
end Go.Proofs.Ytgfioakidefkdaa

/-
  The walk of FnExactPathTakes.
-/
namespace Go.Proofs.Ytgfioakidefkdaa
open Go.RowKit

set_option maxHeartbeats 16000000 in
set_option maxRecDepth 100000 in
theorem law_5 (a1 : Option Addr) (n1 cap1 : Nat) (l1 : List Pc) (s2 : ByteArray) (w : World) (hm1 : n1 ≤ maxLen) (hl1 : l1.length = n1 ∧ ∀ i, i < n1 → (pat l1 i).2.2.length ≤ maxLen) (hr1 : PathIn 0 w.heap.size w a1 l1) (hs2 : s2.size ≤ maxLen) :
    Calls Try.prog 5 #[pv a1 n1 cap1, .string s2] w fun e w' => e = .returned (.bool true) ∧ Below w.heap.size w w' := by
  have HR1 : Hid (PathIn 0 w.heap.size w a1 l1) := hr1
  have HL1 : Hid (l1.length = n1) := hl1.1
  have HLM1 : Hid (∀ i, i < n1 → (pat l1 i).2.2.length ≤ maxLen) := hl1.2
  have HMX1 : Hid (n1 ≤ maxLen) := hm1
  clear hr1 hl1 hm1
  unfold maxLen at hs2
  by_cases hbig : s2.size ≤ 1048576
  · have hgt : ¬ (s2.size : Int) > 1048576 := by omega
    have hgt2 : ¬ (1048576 : Int) < (s2.size : Int) := by omega
    obtain ⟨sn, HSN⟩ : ∃ sn, Hid (s2.size = sn) := ⟨_, rfl⟩
    have hsn : sn ≤ 1048576 := by rw [← HSN.out]; exact hbig
    obtain ⟨r, HRR⟩ : ∃ r : Bool, Hid (r = takesW l1 s2 sn) := ⟨_, rfl⟩
    clear hs2 hbig
    unfold pv
    go_enter Try.func5, Try.ntmps5
    go_wp2_with fail
    refine (szPath_any 0 w.heap.size a1 n1 cap1 1048576 l1 _ (HR1.out.below (below1 w _) (Nat.le_refl _)) (by simp) HL1.out HMX1.out HLM1.out (by omega)).mono ?_
    rintro e w1 ⟨x, rfl, HX1, hb1⟩
    have HD_1 : Hid (Hold w w1 [(w.heap.size, [.slice a1 n1 cap1])]) := ((Hold.none w).more [.slice a1 n1 cap1] 58).below hb1.out
    clear hb1
    by_cases hx : x < 0
    · go_wp2
      go_ret
      exact ⟨rfl, HD_1.out.bel⟩
    have HM1 : Hid (n1 ≤ 1048576 ∧ (∀ i, i < n1 → (pat l1 i).2.2.length ≤ 1048576) ∧ kidsLen l1 n1 ≤ 1048576) := by
      rcases HX1.out with h | ⟨h1, h2⟩
      · omega
      · refine ⟨by omega, fun i hi => ?_, by omega⟩
        have := kids_le l1 hi
        omega
    clear HX1 HMX1 HLM1
    have ZZ2 : Hid (w.heap.size < w1.heap.size) := HD_1.out.lt (vs := [.slice a1 n1 cap1]) (by simp)
    have q_4 : w1.cell? ⟨w.heap.size, 0, none⟩ = some (.slice a1 n1 cap1) := HD_1.out.cell (b := w.heap.size) (vs := [.slice a1 n1 cap1]) (i := 0) (by simp) (by simp)
    go_wp2_with fail
    refine (toPath_any 0 w.heap.size a1 n1 cap1 l1 _ (HR1.out.below HD_1.out.bel (Nat.le_refl _)) HD_1.out.bel.size HL1.out HM1.out.1 HM1.out.2.1).mono ?_
    rintro e w2 ⟨g2, rfl, X_3, B_5⟩
    clear q_4
    have HD_6 : Hid (Hold w w2 [(w.heap.size, [.slice a1 n1 cap1])]) := HD_1.out.below B_5.out
    clear HD_1
    have ZZ7 : Hid (w1.heap.size ≤ w2.heap.size) := B_5.out.size
    clear B_5
    have T1_8 : Hid (PathOwn w1.heap.size w2.heap.size w2 (some ⟨g2, 0, none⟩) l1) := X_3.out
    clear X_3
    go_wp2_with fail
    refine (specTakes_any w1.heap.size w2.heap.size (some ⟨g2, 0, none⟩) n1 n1 l1 s2 sn r _ HSN.out hsn T1_8.out.toIn (by have y0 := ZZ2.out; have y1 := ZZ7.out; omega) HL1.out HM1.out.1 HM1.out.2.1 HRR.out).mono ?_
    rintro e w3 ⟨rfl, B_9⟩
    have HD_10 : Hid (Hold w w3 [(w.heap.size, [.slice a1 n1 cap1])]) := HD_6.out.below B_9.out
    clear HD_6
    have ZZ11 : Hid (w2.heap.size ≤ w3.heap.size) := B_9.out.size
    have T1_11 : Hid (PathOwn w1.heap.size w2.heap.size w3 (some ⟨g2, 0, none⟩) l1) := T1_8.out.below B_9.out (by have y0 := ZZ2.out; have y1 := ZZ7.out; have y2 := ZZ11.out; omega)
    clear T1_8
    clear B_9
    clear T1_11
    have q_13 : w3.cell? ⟨w.heap.size, 0, none⟩ = some (.slice a1 n1 cap1) := HD_10.out.cell (b := w.heap.size) (vs := [.slice a1 n1 cap1]) (i := 0) (by simp) (by simp)
    go_wp2_with fail
    refine (toPath_any 0 w.heap.size a1 n1 cap1 l1 _ (HR1.out.below HD_10.out.bel (Nat.le_refl _)) HD_10.out.bel.size HL1.out HM1.out.1 HM1.out.2.1).mono ?_
    rintro e w4 ⟨g4, rfl, X_12, B_14⟩
    clear q_13
    have HD_15 : Hid (Hold w w4 [(w.heap.size, [.slice a1 n1 cap1])]) := HD_10.out.below B_14.out
    clear HD_10
    have ZZ16 : Hid (w3.heap.size ≤ w4.heap.size) := B_14.out.size
    clear B_14
    have X0_17 : Hid (PathOwn w3.heap.size w4.heap.size w4 (some ⟨g4, 0, none⟩) l1) := X_12.out
    clear X_12
    have BA_18 : Hid (Below w4.heap.size w4 (w4.alloc (.cells #[.slice (some ⟨g4, 0, none⟩) n1 n1] 30))) := below1' w4 _
    have HD_19 : Hid (Hold w (w4.alloc (.cells #[.slice (some ⟨g4, 0, none⟩) n1 n1] 30)) [(w4.heap.size, [.slice (some ⟨g4, 0, none⟩) n1 n1]), (w.heap.size, [.slice a1 n1 cap1])]) := HD_15.out.more [.slice (some ⟨g4, 0, none⟩) n1 n1] 30
    clear HD_15
    have ZZ20 : Hid ((w4.alloc (.cells #[.slice (some ⟨g4, 0, none⟩) n1 n1] 30)).heap.size = w4.heap.size + 1) := by show _ = _; simp
    have ZZ21 : Hid (w4.heap.size ≤ (w4.alloc (.cells #[.slice (some ⟨g4, 0, none⟩) n1 n1] 30)).heap.size) := BA_18.out.size
    have X0_21 : Hid (PathOwn w3.heap.size w4.heap.size (w4.alloc (.cells #[.slice (some ⟨g4, 0, none⟩) n1 n1] 30)) (some ⟨g4, 0, none⟩) l1) := X0_17.out.below BA_18.out (by have y0 := ZZ2.out; have y1 := ZZ7.out; have y2 := ZZ11.out; have y3 := ZZ16.out; have y4 := ZZ20.out; have y5 := ZZ21.out; omega)
    clear X0_17
    clear BA_18
    have q_22 : (w4.alloc (.cells #[.slice (some ⟨g4, 0, none⟩) n1 n1] 30)).cell? ⟨w4.heap.size, 0, none⟩ = some (.slice (some ⟨g4, 0, none⟩) n1 n1) := HD_19.out.cell (b := w4.heap.size) (vs := [.slice (some ⟨g4, 0, none⟩) n1 n1]) (i := 0) (by simp) (by simp)
    go_wp2_with fail
    refine (pathTakes_any w3.heap.size w4.heap.size (some ⟨g4, 0, none⟩) n1 n1 l1 s2 sn r _ HSN.out hsn X0_21.out.toIn (by have y0 := ZZ2.out; have y1 := ZZ7.out; have y2 := ZZ11.out; have y3 := ZZ16.out; have y4 := ZZ20.out; have y5 := ZZ21.out; omega) HL1.out HM1.out.1 HM1.out.2.1 HRR.out).mono ?_
    rintro e w5 ⟨rfl, B_23⟩
    clear q_22
    have HD_24 : Hid (Hold w w5 [(w4.heap.size, [.slice (some ⟨g4, 0, none⟩) n1 n1]), (w.heap.size, [.slice a1 n1 cap1])]) := HD_19.out.below B_23.out
    clear HD_19
    have ZZ25 : Hid ((w4.alloc (.cells #[.slice (some ⟨g4, 0, none⟩) n1 n1] 30)).heap.size ≤ w5.heap.size) := B_23.out.size
    have X0_25 : Hid (PathOwn w3.heap.size w4.heap.size w5 (some ⟨g4, 0, none⟩) l1) := X0_21.out.below B_23.out (by have y0 := ZZ2.out; have y1 := ZZ7.out; have y2 := ZZ11.out; have y3 := ZZ16.out; have y4 := ZZ20.out; have y5 := ZZ21.out; have y6 := ZZ25.out; omega)
    clear X0_21
    clear B_23
    have q_26 : w5.cell? ⟨w4.heap.size, 0, none⟩ = some (.slice (some ⟨g4, 0, none⟩) n1 n1) := HD_24.out.cell (b := w4.heap.size) (vs := [.slice (some ⟨g4, 0, none⟩) n1 n1]) (i := 0) (by simp) (by simp)
    have q_27 : w5.cell? ⟨w.heap.size, 0, none⟩ = some (.slice a1 n1 cap1) := HD_24.out.cell (b := w.heap.size) (vs := [.slice a1 n1 cap1]) (i := 0) (by simp) (by simp)
    have HC1 : Hid (∀ w0, Below w5.heap.size w5 w0 → Calls Try.prog 27 #[.agg #[.slice a1 n1 cap1]] w0 fun e w' => ∃ g : Nat, e = .returned (.agg #[.slice (some ⟨g, 0, none⟩) n1 n1]) ∧ Hid (PathIn w5.heap.size w'.heap.size w' (some ⟨g, 0, none⟩) l1) ∧ Hid (Below w5.heap.size w5 w') ∧ (w'.cell? ⟨w4.heap.size, 0, none⟩ = some (.slice (some ⟨g4, 0, none⟩) n1 n1) ∧ w'.cell? ⟨w.heap.size, 0, none⟩ = some (.slice a1 n1 cap1))) := fun w0 h =>
      (toPath_any 0 w.heap.size a1 n1 cap1 l1 w0 (HR1.out.below (HD_24.out.below h).bel (Nat.le_refl _)) (HD_24.out.below h).bel.size HL1.out HM1.out.1 HM1.out.2.1).mono fun _ w' ⟨g, h1, h2, h4⟩ =>
        have h3 : Hid (Hold w w' [(w4.heap.size, [.slice (some ⟨g4, 0, none⟩) n1 n1]), (w.heap.size, [.slice a1 n1 cap1])]) := (HD_24.out.below h).below h4.out
        ⟨g, h1, h2.out.toIn.wide h.size (Nat.le_refl _), h.trans (h4.out.mono h.size), h3.out.cell (b := w4.heap.size) (vs := [.slice (some ⟨g4, 0, none⟩) n1 n1]) (i := 0) (by simp) (by simp), h3.out.cell (b := w.heap.size) (vs := [.slice a1 n1 cap1]) (i := 0) (by simp) (by simp)⟩
    have HC2 : Hid (∀ (g : Nat) w0, Below w5.heap.size w5 w0 → PathIn w5.heap.size w0.heap.size w0 (some ⟨g, 0, none⟩) l1 → Calls Try.prog 29 #[.agg #[.slice (some ⟨g4, 0, none⟩) n1 n1], .agg #[.slice (some ⟨g, 0, none⟩) n1 n1]] w0 fun e w' => e = .returned (.bool true) ∧ Hid (Below w5.heap.size w5 w') ∧ (w'.cell? ⟨w4.heap.size, 0, none⟩ = some (.slice (some ⟨g4, 0, none⟩) n1 n1) ∧ w'.cell? ⟨w.heap.size, 0, none⟩ = some (.slice a1 n1 cap1))) := fun g w0 h hx =>
      (eqPath_any w3.heap.size w4.heap.size w5.heap.size w0.heap.size (some ⟨g4, 0, none⟩) (some ⟨g, 0, none⟩) n1 n1 n1 n1 l1 l1 true w0 (X0_25.out.toIn.below h (by have y0 := ZZ2.out; have y1 := ZZ7.out; have y2 := ZZ11.out; have y3 := ZZ16.out; have y4 := ZZ20.out; have y5 := ZZ21.out; have y6 := ZZ25.out; omega)) hx (by have yy := h.size; have y0 := ZZ2.out; have y1 := ZZ7.out; have y2 := ZZ11.out; have y3 := ZZ16.out; have y4 := ZZ20.out; have y5 := ZZ21.out; have y6 := ZZ25.out; omega) (Nat.le_refl _) HL1.out HL1.out HM1.out.1 HM1.out.2.1 (by simp)).mono fun _ w' ⟨h1, h4⟩ =>
        have h3 : Hid (Hold w w' [(w4.heap.size, [.slice (some ⟨g4, 0, none⟩) n1 n1]), (w.heap.size, [.slice a1 n1 cap1])]) := (HD_24.out.below h).below h4.out
        ⟨h1, h.trans (h4.out.mono h.size), h3.out.cell (b := w4.heap.size) (vs := [.slice (some ⟨g4, 0, none⟩) n1 n1]) (i := 0) (by simp) (by simp), h3.out.cell (b := w.heap.size) (vs := [.slice a1 n1 cap1]) (i := 0) (by simp) (by simp)⟩
    go_wp2_with fail
    go_region_held3 (fun w' => w'.cell? ⟨w4.heap.size, 0, none⟩ = some (.slice (some ⟨g4, 0, none⟩) n1 n1) ∧ w'.cell? ⟨w.heap.size, 0, none⟩ = some (.slice a1 n1 cap1)) (first | exact ⟨q_26, q_27⟩ | exact hk9 | exact hk10) (first | (go_at_call 27; refine (HC1.out _ ((Below.refl _ _).drew)).mono ?_; rintro e w6 ⟨g9, rfl, X9, B9, hk9⟩) | (go_at_call 29; refine (HC2.out _ _ B9.out X9.out).mono ?_; rintro e w7 ⟨rfl, B10, hk10⟩))
    clear q_26 q_27
    clear hk9 hk10 B9 X9 HC1 HC2
    have HD_28 : Hid (Hold w w7 [(w4.heap.size, [.slice (some ⟨g4, 0, none⟩) n1 n1]), (w.heap.size, [.slice a1 n1 cap1])]) := HD_24.out.below B10.out
    clear HD_24
    have ZZ29 : Hid (w5.heap.size ≤ w7.heap.size) := B10.out.size
    have X0_29 : Hid (PathOwn w3.heap.size w4.heap.size w7 (some ⟨g4, 0, none⟩) l1) := X0_25.out.below B10.out (by have y0 := ZZ2.out; have y1 := ZZ7.out; have y2 := ZZ11.out; have y3 := ZZ16.out; have y4 := ZZ20.out; have y5 := ZZ21.out; have y6 := ZZ25.out; have y7 := ZZ29.out; omega)
    clear X0_25
    clear B10
    go_wp2
    go_ret
    exact ⟨rfl, HD_28.out.bel⟩
  · have hgt : (s2.size : Int) > 1048576 := by omega
    have hgt2 : (1048576 : Int) < (s2.size : Int) := by omega
    unfold pv
    go_enter Try.func5, Try.ntmps5
    go_wp2
    go_ret
    exact ⟨rfl, below1 w _⟩
end Go.Proofs.Ytgfioakidefkdaa

namespace Go.Proofs.Ytgfioakidefkdaa.fnExactPathTakes
open Go.ChangeShapes Go.WideShapes Go.ChangeAt Go.RowKit
open Go.ChangeMaps (open_string shut_string)
set_option linter.unusedVariables false

theorem own : ownKnob Try.prog.godebug = none := by kernel_rfl
theorem laidOut : laidOutB Try.prog = true := by kernel_rfl

set_option maxRecDepth 100000 in
theorem lifted (os : Os) (started : os.Started) (H : Type) (enc : TypeId × Value → H) :
    ReturnsInHanded {} Try.checked os 5 .any (Rows.fnExactPathTakesSpec.pre6 enc Try.prog Try.f5 Rows.fnExactPathTakesRow.domain false) (Rows.fnExactPathTakesSpec.post enc Try.prog Try.f5 false true false false) := by
  refine returnsInHanded_of_change (C := Try.checked) own started (by kernel_rfl) Try.func5
    (ChangeSpec.witness6 (enc := enc) (C := Try.checked) false ⟨#[], #[.agg #[.slice none 0 0], .string ByteArray.empty], []⟩ 8 (by kernel_rfl) (by kernel_rfl) (by kernel_rfl) (by kernel_rfl)) ?_
  intro W base args ds gs before hval0 hW hcnd _
  have hval : ∀ (j : Nat) t v, Try.f5.params[j]? = some t → args[j]? = some v → Value.okWide Try.prog W .any base t v := hval0
  have hW' := hW
  obtain ⟨p, q, hA0, hV, rfl, hfz, hnd⟩ := hW
  have hA : DataW.TrodAll enc Try.prog W 0 (fun _ => true) true Try.f5.params.toList args.toList ds p := hA0
  rw [Try.params5] at hA hval
  obtain ⟨v0, vs0, d0, ds0, p0, q0, hargs, rfl, rfl, h0, r0⟩ := trodAll_cons hA
  obtain ⟨v1, vs1, d1, ds1, p1, q1, rfl, rfl, rfl, h1, r1⟩ := trodAll_cons r0
  obtain ⟨rfl, rfl, rfl⟩ := trodAll_nil r1
  obtain rfl : args = #[v0, v1] := by cases args; simp_all
  obtain ⟨rfl, rfl⟩ := trodVars_none hV
  have k0 := h0
  have lt0 : ∀ x ∈ p0, x.block < W.heap.size := by obtain ⟨m, hm⟩ := k0; exact DataW.trod_lt m _ _ _ hm
  have k1 := h1
  have lt1 : ∀ x ∈ p1, x.block < W.heap.size := by obtain ⟨m, hm⟩ := k1; exact DataW.trod_lt m _ _ _ hm
  obtain ⟨a0, n0, cap0, l0, rfl, hm0, hl0, hr0⟩ := path_in (hval 0 58 v0 rfl rfl) k0
  obtain ⟨s1, rfl, rfl, rfl, hs1⟩ := open_string Try.underlying9 (hval 1 9 v1 rfl rfl) h1
  clear hA0 hval0
  refine (law_5 a0 n0 cap0 l0 s1 W hm0 hl0 hr0 hs1).mono fun e W' ⟨he, bel⟩ => ?_
  subst he
  exact ⟨_, rfl, _, _, _, [], _, [], hW', trodAll_mk1 (shut_bool Try.underlying4 _), (trodAll_cons_mk (Below.trod laidOut (by kernel_rfl) (of_decide_eq_true (by kernel_rfl)) k0 bel lt0) (trodAll_cons_mk (Below.trod laidOut (by kernel_rfl) (of_decide_eq_true (by kernel_rfl)) k1 bel lt1) trodAll_mk0)), rfl, bel.frame _, fun h => by cases h⟩

theorem over : Rows.fnExactPathTakesRow.holds Try.pinned (OpenSpec.ofChange Rows.fnExactPathTakesSpec) :=
  OpenClaim.holds_of_wide 5 Try.f5 rfl rfl rfl rfl rfl rfl rfl ⟨rfl, rfl, rfl, rfl, rfl⟩ rfl rfl rfl rfl rfl (by kernel_rfl) Try.func5 (by kernel_rfl)
    (of_decide_eq_true (by kernel_rfl)) (by unfold Func.isWrapper; first | (rw [if_pos (by decide +kernel)]; kernel_rfl) | (rw [if_neg (by decide +kernel)]; exact ⟨rfl, rfl⟩))
    (fun os started H enc _ => lifted os started H enc)

end Go.Proofs.Ytgfioakidefkdaa.fnExactPathTakes
namespace Go.Proofs.Ytgfioakidefkdaa

theorem fnExactPathTakes_holds : Rows.FnExactPathTakesSaid := fnExactPathTakes.over
#print axioms fnExactPathTakes_holds
end Go.Proofs.Ytgfioakidefkdaa
