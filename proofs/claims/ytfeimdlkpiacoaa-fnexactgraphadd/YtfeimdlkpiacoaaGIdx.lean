/-
  slices.Index, slices.Contains at edges.
-/
import Derived.Test.YtfeimdlkpiacoaaEdC
import Derived.Laws.StructEq
namespace Go.Proofs.Ytfeimdlkpiacoaa
open Go.RowKit

set_option maxRecDepth 100000 in
theorem eql_edge (x0 x1 x2 y0 y1 y2 : Int) (q : Bool) (w : World) (hq : q = decide ((x0, x1, x2) = ((y0, y1, y2) : Ed))) : (binOp .eql 37 (.agg #[.int .i64 x0, .int .u8 x1, .int .i64 x2]) (.agg #[.int .i64 y0, .int .u8 y1, .int .i64 y2])).run Try.prog w = .ok (.bool q) w := by
  have u3 := Try.underlying3
  have a3 := Try.isAgg3
  have z3 := Try.sizeOf3
  have u5 := Try.underlying5
  have a5 := Try.isAgg5
  have z5 := Try.sizeOf5
  have hS : Try.prog.underlying 37 = some (.struct (Try.prog.fieldsOf 37)) := by kernel_rfl
  have hp : Try.prog.stoodInHeld 37 = false := by kernel_rfl
  rw [run_eql_struct, show (10000 : Nat) = 9999 + 1 from rfl, run_equalIn_agg w 9999 37 _ _ hS hp]
  simp only [Program.fieldsOf, Try.underlying37]
  rw [hq]
  go_simp
  by_cases h1 : x0 = y0 <;> by_cases h2 : x1 = y1 <;> by_cases h3 : x2 = y2 <;> simp [h1, h2, h3]

/-- where an edge is met first; -1: nowhere -/
def idxE (l : List Ed) (e : Ed) (k : Nat) : Prop := ∀ i, i < k → eat l i ≠ e

set_option maxHeartbeats 2000000 in
set_option maxRecDepth 100000 in
theorem indexE_any (lo hi : Nat) (a : Option Addr) (n cap : Nat) (l : List Ed) (e : Ed) (w : World) (ha : EdgesIn lo hi w a l) (hh : hi ≤ w.heap.size) (hn : l.length = n) (hm : n ≤ 1048576) :
    Calls Try.prog 62 #[.slice a n cap, ev e] w fun r w' => ∃ z : Int, r = .returned (.int .i64 z) ∧ Hid (decide (0 ≤ z) = decide (e ∈ l)) ∧ Hid (Below w.heap.size w w') := by
  have HN : Hid (l.length = n) := hn
  have HA : Hid (EdgesIn lo hi w a l) := ha
  have HH : Hid (hi ≤ w.heap.size) := hh
  obtain ⟨B, HB⟩ : ∃ B, Hid (B = w.heap.size) := ⟨_, rfl⟩
  clear ha hh hn
  obtain ⟨e0, e1, e2⟩ := e
  go_enter Try.func62, Try.ntmps62
  go_wp2
  rw [← HB.out]
  go_loopw [8] (fun i wr => ∃ k : Nat, i = .int .i64 k ∧ k ≤ n ∧ Hid (∀ j, j < k → eat l j ≠ (e0, e1, e2)) ∧ Hid (Below w.heap.size w wr) ∧ Hid (Blk wr B 3 (fun i => if i = 0 then .int .i64 e0 else if i = 1 then .int .u8 e1 else .int .i64 e2))) (fun i _ => n - (intOf i).toNat)
  case atStart => exact ⟨0, rfl, by omega, fun j hj => absurd hj (by omega), below1 _ _, blk_three w B HB.out _ _ _ _⟩
  case round =>
    obtain ⟨k, rfl, hk, HP, HL, HK⟩ := hrel
    by_cases hlt : k < n
    · have hlt1 : (k : Int) < (n : Int) := by omega
      have hlt0 : (0 : Int) ≤ (k : Int) := by omega
      obtain ⟨b, o, rfl, _, _, hx⟩ := (HA.out.below HL.out HH.out).edge (k := k) (by rw [HN.out]; exact hlt)
      obtain ⟨x, HXX⟩ : ∃ x : Ed, Hid (x = eat l k) := ⟨_, rfl⟩
      rw [← HXX.out] at hx
      obtain ⟨x0, x1, x2⟩ := x
      obtain ⟨p0, p1, p2⟩ := hx
      dsimp only at p0 p1 p2
      have c0 : wr.cell? ⟨B, 0, none⟩ = some (.int .i64 e0) := HK.out.cell (i := 0) (by omega)
      have c1 : wr.cell? ⟨B, 1, none⟩ = some (.int .u8 e1) := HK.out.cell (i := 1) (by omega)
      have c2 : wr.cell? ⟨B, 2, none⟩ = some (.int .i64 e2) := HK.out.cell (i := 2) (by omega)
      by_cases he : (e0, e1, e2) = ((x0, x1, x2) : Ed)
      · have hq := fun w => eql_edge e0 e1 e2 x0 x1 x2 true w (decide_eq_true he).symm
        have HIN : Hid ((e0, e1, e2) ∈ l) := by
          show _ ∈ _
          rw [he, HXX.out, eat_get (by rw [HN.out]; exact hlt)]
          exact List.getElem_mem _
        clear he
        go_wp2_with fail
        go_quiet (fail)
        go_wp2
        go_ret
        refine ⟨(k : Int), rfl, ?_, below_drewN HL.out _⟩
        show _ = _
        rw [decide_eq_true HIN.out]; simp
      · have hq := fun w => eql_edge e0 e1 e2 x0 x1 x2 false w (decide_eq_false he).symm
        have HNE : Hid ((e0, e1, e2) ≠ ((x0, x1, x2) : Ed)) := he
        clear he
        go_wp2_with fail
        go_quiet (fail)
        go_wp2
        go_roundw
        case rel =>
          refine ⟨k + 1, by go_num, by omega, fun j hj => ?_, below_drewN HL.out _, HK⟩
          by_cases ej : j = k
          · subst ej; rw [← HXX.out]; exact fun h => HNE.out h.symm
          · exact HP.out j (by omega)
        case measure => simp [intOf]; omega
    · obtain rfl : k = n := by omega
      go_wp2
      go_ret
      refine ⟨-1, rfl, ?_, HL⟩
      show _ = _
      have : ¬ (e0, e1, e2) ∈ l := by
        intro h
        obtain ⟨i, hi, e⟩ := List.getElem_of_mem h
        exact HP.out i (by rw [← HN.out]; exact hi) (by rw [eat_get hi, e])
      rw [decide_eq_false this]; simp
set_option maxHeartbeats 1000000 in
set_option maxRecDepth 100000 in
theorem containsE_any (lo hi : Nat) (a : Option Addr) (n cap : Nat) (l : List Ed) (e : Ed) (q : Bool) (w : World) (ha : EdgesIn lo hi w a l) (hh : hi ≤ w.heap.size) (hn : l.length = n) (hm : n ≤ 1048576) (hq : q = decide (e ∈ l)) :
    Calls Try.prog 40 #[.slice a n cap, ev e] w fun r w' => r = .returned (.bool q) ∧ Hid (Below w.heap.size w w') := by
  have HN : Hid (l.length = n) := hn
  have HA : Hid (EdgesIn lo hi w a l) := ha
  have HH : Hid (hi ≤ w.heap.size) := hh
  have HQ : Hid (q = decide (e ∈ l)) := hq
  clear ha hh hn hq
  obtain ⟨e0, e1, e2⟩ := e
  go_enter Try.func40, Try.ntmps40
  go_wp2_with fail
  refine (indexE_any lo hi a n cap l (e0, e1, e2) _ (HA.out.below (below1 w _) HH.out) (by have := HH.out; simp; omega) HN.out hm).mono ?_
  rintro e w1 ⟨z, rfl, HZ, HB⟩
  have HL : Hid (Below w.heap.size w w1) := (below1 w _).trans (HB.out.mono (by simp))
  have hd : decide (0 ≤ z) = q := by rw [HZ.out, HQ.out]
  have hd' : decide (z ≥ 0) = q := hd
  go_wp2
  go_ret
  exact ⟨rfl, HL⟩
end Go.Proofs.Ytfeimdlkpiacoaa
