/-
  The model's l06Behind: one table of truth behind another.
-/
import Derived.Test.YtdbogikcmfnpdaaBmA
namespace Go.Proofs.Ytdbogikcmfnpdaa
open Go.RowKit

def behTo (A B : Rl) (i m j : Nat) : Bool := (List.range m).any fun k => A i k && B k j
theorem behTo_succ (A B : Rl) (i m j : Nat) : behTo A B i (m + 1) j = (behTo A B i m j || (A i m && B m j)) := by simp [behTo, List.range_succ]
/-- a square table of truths -/
def BM (w : World) (b n : Nat) (R : Rl) : Prop := TBlk w b (n * n) (fun i => R (i / n) (i % n))
theorem idx_lt {n i j : Nat} (hi : i < n) (hj : j < n) : i * n + j < n * n := by
  have : (i + 1) * n ≤ n * n := Nat.mul_le_mul_right n hi
  rw [Nat.add_mul] at this
  omega
theorem idx_div {n i j : Nat} (hj : j < n) : (i * n + j) / n = i := by
  rw [Nat.mul_comm, Nat.mul_add_div (by omega), Nat.div_eq_of_lt hj]; rfl
theorem idx_mod {n i j : Nat} (hj : j < n) : (i * n + j) % n = j := by
  rw [Nat.mul_comm, Nat.mul_add_mod, Nat.mod_eq_of_lt hj]
theorem BM.get {w : World} {b n i j : Nat} {R : Rl} (h : BM w b n R) (hi : i < n) (hj : j < n) : w.cell? ⟨b, i * n + j, none⟩ = some (.bool (R i j)) := by
  have := TBlk.get h (idx_lt hi hj)
  rw [idx_div hj, idx_mod hj] at this
  exact this
theorem BM.congr {w : World} {b n : Nat} {R S : Rl} (h : BM w b n R) (e : ∀ i j, i < n → j < n → R i j = S i j) : BM w b n S := by
  refine TBlk.congr h fun i hi => ?_
  have h0 : 0 < n := by
    rcases Nat.eq_zero_or_pos n with h | h
    · subst h; simp at hi
    · exact h
  exact e _ _ (Nat.div_lt_of_lt_mul hi) (Nat.mod_lt _ h0)
theorem BM.put {w : World} {b n i j : Nat} {R : Rl} (h : BM w b n R) (hi : i < n) (hj : j < n) (v : Bool) : BM (w.setCell ⟨b, i * n + j, none⟩ (.bool v)) b n (fun x y => if x = i ∧ y = j then v else R x y) := by
  refine (TBlk.put h (idx_lt hi hj) v).congr fun k hk => ?_
  by_cases e : k = i * n + j
  · subst e; rw [idx_div hj, idx_mod hj]; simp
  · rw [if_neg e]
    show _ = if _ then _ else _
    rw [if_neg]
    rintro ⟨rfl, rfl⟩
    apply e
    rw [Nat.mul_comm, Nat.div_add_mod]
theorem BM.of {w w' : World} {b n : Nat} {R : Rl} (h : BM w b n R) (e : w'.heap[b]? = w.heap[b]?) : BM w' b n R := TBlk.of h e
theorem BM.lt {w : World} {b n : Nat} {R : Rl} (h : BM w b n R) : b < w.heap.size := TBlk.lt h
theorem BM.or {w : World} {b n : Nat} {R S : Rl} (h : TBlk w b (n * n) (fun i => R (i / n) (i % n) || S (i / n) (i % n))) : BM w b n (orR R S) := h
theorem Try.info4 : (Try.prog.info? 4).map (fun i => (i.zero, i.size, i.bytes)) = some (some (.bool false), 1, 1) := by kernel_rfl
theorem nn_int {n : Nat} : (n : Int) * (n : Int) = ((n * n : Nat) : Int) := by simp
theorem nn_le13 {n : Nat} (h : n ≤ 13) : n * n ≤ 169 := Nat.mul_le_mul h h
theorem nn_le {n : Nat} (h : n ≤ 12) : n * n ≤ 144 := Nat.mul_le_mul h h

set_option maxHeartbeats 600000 in
set_option maxRecDepth 100000 in
theorem l06Behind_any (p q n c1 c2 : Nat) (A B : Rl) (w : World) (hp : BM w p n A) (hq : BM w q n B) (hn : n ≤ 13) :
    Calls Try.prog 67 #[.slice (some ⟨p, 0, none⟩) (n * n) c1, .slice (some ⟨q, 0, none⟩) (n * n) c2, .int .i64 (n : Int)] w fun e w' => ∃ g : Nat, e = .returned (.slice (some ⟨g, 0, none⟩) (n * n) (n * n)) ∧ Hid (g = w.heap.size) ∧ Hid (BM w' g n (behR n A B)) ∧ Hid (Below w.heap.size w w') := by
  have HP : Hid (BM w p n A) := hp
  have HQ : Hid (BM w q n B) := hq
  clear hp hq
  obtain ⟨i0, hi0, hz0, hz1, hz2⟩ := info_parts Try.info4
  have hnn1 := nn_le13 hn
  have hnn : (n : Int) * (n : Int) = ((n * n : Nat) : Int) := nn_int
  obtain ⟨N2, HN2⟩ : ∃ m, Hid (m = n * n) := ⟨_, rfl⟩
  rw [← HN2.out] at hnn hnn1 ⊢
  go_enter Try.func67, Try.ntmps67
  go_wp2_with (at_make; (refine wpList_make_full _ rfl _ _ 81 rfl w.heap.size 4 i0 (.bool false) 1 Try.underlying81 hi0 hz0 hz1 .i64 .i64 _ _ N2 rfl rfl (by first | rfl | omega) (by first | rfl | omega) (by rw [hz2]; omega) (by unfold maxLen; omega) (Nat.le_refl _) ?_; intro w1 hown hgrow))
  obtain ⟨g, HG⟩ : ∃ g, Hid (g = w.heap.size) := ⟨_, rfl⟩
  have HB1 : Hid (Below w.heap.size w w1) := (Below.refl _ _).grown hgrow (Nat.le_refl _) (fun k hk => nomatch hk)
  have HO1 : Hid (BM w1 g n noR) := by
    rw [HG.out]
    have := blk_own hown
    rw [Nat.mul_one, HN2.out] at this
    refine Blk.congr this fun i hi => ?_
    show (madeCells #[Value.bool false] (n * n)).toList.getD i _ = _
    rw [toList_madeCells_one]
    simp [List.getD, hi, noR]
  rw [← HG.out]
  have HNE : Hid (p ≠ g ∧ q ≠ g) := ⟨by have := HP.out.lt; have := HG.out; omega, by have := HQ.out.lt; have := HG.out; omega⟩
  have HP1 : Hid (BM w1 p n A) := HP.out.of (HB1.out.block _ HP.out.lt)
  have HQ1 : Hid (BM w1 q n B) := HQ.out.of (HB1.out.block _ HQ.out.lt)
  clear hown hgrow HP HQ
  go_loopw [8] (fun v wr => ∃ i : Nat, v = .int .i64 i ∧ i ≤ n ∧ Hid (BM wr g n (fun x y => if x < i then behR n A B x y else false)) ∧ Hid (KeptP (fun c => c = g) w1 wr)) (fun v _ => n - (intOf v).toNat)
  case atStart => exact ⟨0, rfl, by omega, HO1.out.congr fun i j _ _ => by simp [noR], KeptP.refl _ _⟩
  case round =>
    obtain ⟨i, rfl, hi, HI, HL⟩ := hrel
    by_cases hlt : i < n
    · have hlt1 : (i : Int) < (n : Int) := by omega
      have hlt0 : (0 : Int) ≤ (i : Int) := by omega
      obtain ⟨Qi, HQi⟩ : ∃ m, Hid (m = i * n) := ⟨_, rfl⟩
      have hqi : (i : Int) * (n : Int) = (Qi : Int) := by rw [HQi.out]; simp
      go_wp2
      go_loopw [9] (fun v wr => ∃ m : Nat, v = .int .i64 m ∧ m ≤ n ∧ Hid (BM wr g n (fun x y => if x < i then behR n A B x y else if x = i then behTo A B i m y else false)) ∧ Hid (KeptP (fun c => c = g) w1 wr)) (fun v _ => n - (intOf v).toNat)
      case atStart =>
        refine ⟨0, rfl, by omega, HI.out.congr fun x y _ _ => ?_, HL⟩
        by_cases e : x = i <;> simp [e, behTo]
      case round =>
        obtain ⟨m, rfl, hm, HI2, HL2⟩ := hrel
        by_cases hmt : m < n
        · have hmt1 : (m : Int) < (n : Int) := by omega
          have hmt0 : (0 : Int) ≤ (m : Int) := by omega
          obtain ⟨Qm, HQm⟩ : ∃ k, Hid (k = m * n) := ⟨_, rfl⟩
          have hqm : (m : Int) * (n : Int) = (Qm : Int) := by rw [HQm.out]; simp
          have hb1 : Qi + m < N2 := by rw [HQi.out, HN2.out]; exact idx_lt hlt hmt
          obtain ⟨a, HA⟩ : ∃ a, Hid (a = A i m) := ⟨_, rfl⟩
          go_wp2
          go_loopw [10] (fun v wr => ∃ j : Nat, v = .int .i64 j ∧ j ≤ n ∧ Hid (BM wr g n (fun x y => if x < i then behR n A B x y else if x = i then (if y < j then behTo A B i (m + 1) y else behTo A B i m y) else false)) ∧ Hid (KeptP (fun c => c = g) w1 wr)) (fun v _ => n - (intOf v).toNat)
          case atStart => exact ⟨0, rfl, by omega, HI2.out.congr fun x y _ _ => by simp, HL2⟩
          case round =>
            obtain ⟨j, rfl, hj, HI3, HL3⟩ := hrel
            by_cases hjt : j < n
            · have hjt1 : (j : Int) < (n : Int) := by omega
              have hjt0 : (0 : Int) ≤ (j : Int) := by omega
              have hca := (HP1.out.of (HL3.out.block _ HP1.out.lt (by have := HNE.out; omega))).get hlt hmt
              rw [← HQi.out, ← HA.out] at hca
              rcases Bool.eq_false_or_eq_true a with hr | hr
              · subst hr
                have hb2 : Qi + j < N2 := by rw [HQi.out, HN2.out]; exact idx_lt hlt hjt
                have hb3 : Qm + j < N2 := by rw [HQm.out, HN2.out]; exact idx_lt hmt hjt
                obtain ⟨o, HOO⟩ : ∃ o, Hid (o = behTo A B i m j) := ⟨_, rfl⟩
                obtain ⟨y, HY⟩ : ∃ o, Hid (o = B m j) := ⟨_, rfl⟩
                have hco := HI3.out.get hlt hjt
                have hcf := HI3.out.frozen (i * n + j)
                rw [← HQi.out] at hcf
                simp only [Nat.lt_irrefl, if_false, if_true] at hco
                rw [← HQi.out, ← HOO.out] at hco
                have hcb := (HQ1.out.of (HL3.out.block _ HQ1.out.lt (by have := HNE.out; omega))).get hmt hjt
                rw [← HQm.out, ← HY.out] at hcb
                have HST : Hid (behTo A B i (m + 1) j = (o || y)) := by show _ = _; rw [behTo_succ, ← HOO.out, ← HA.out, ← HY.out]; simp
                have HPUT : Hid (∀ v, v = (o || y) → BM (wr.setCell ⟨g, Qi + j, none⟩ (.bool v)) g n (fun x y => if x < i then behR n A B x y else if x = i then (if y < j + 1 then behTo A B i (m + 1) y else behTo A B i m y) else false)) := by
                  intro v hv
                  rw [HQi.out]
                  refine (HI3.out.put hlt hjt v).congr fun x y _ _ => ?_
                  by_cases ex : x = i
                  · subst ex
                    by_cases ey : y = j
                    · subst ey; simp [hv, HST.out]
                    · by_cases e2 : y < j
                      · simp [ey, e2, show y < j + 1 by omega]
                      · simp [ey, e2, show ¬ y < j + 1 by omega]
                  · simp [ex]
                rcases Bool.eq_false_or_eq_true o with hr | hr
                · subst hr
                  clear hcb
                  go_wp2
                  go_roundw
                  case rel => exact ⟨j + 1, by go_num, by omega, HPUT.out _ (by simp), HL3.out.setCell rfl _⟩
                  case measure => simp [intOf]; omega
                · subst hr
                  go_wp2
                  go_roundw
                  case rel => exact ⟨j + 1, by go_num, by omega, HPUT.out _ (by simp), HL3.out.setCell rfl _⟩
                  case measure => simp [intOf]; omega
              · subst hr
                go_wp2
                go_roundw
                case rel =>
                  refine ⟨m + 1, by go_num, by omega, HI3.out.congr fun x y _ _ => ?_, HL3⟩
                  by_cases ex : x = i
                  · subst ex; simp [behTo_succ, ← HA.out]
                  · simp [ex]
                case measure => simp [intOf]; omega
            · obtain rfl : j = n := by omega
              go_wp2
              go_roundw
              case rel =>
                refine ⟨m + 1, by go_num, by omega, HI3.out.congr fun x y _ hy => ?_, HL3⟩
                simp [hy]
              case measure => simp [intOf]; omega
        · obtain rfl : m = n := by omega
          go_wp2
          go_roundw
          case rel =>
            refine ⟨i + 1, by go_num, by omega, HI2.out.congr fun x y _ _ => ?_, HL2⟩
            by_cases ex : x = i
            · subst ex; simp [behTo, behR]
            · by_cases e2 : x < i
              · simp [e2, show x < i + 1 by omega]
              · simp [ex, e2, show ¬ x < i + 1 by omega]
          case measure => simp [intOf]; omega
    · obtain rfl : i = n := by omega
      go_wp2
      go_ret
      exact ⟨g, rfl, HG, HI.out.congr fun x y hx _ => by simp [hx], HB1.out.trans (HL.out.to_below HB1.out.size (fun c hc => by have := HG.out; omega))⟩
end Go.Proofs.Ytdbogikcmfnpdaa
