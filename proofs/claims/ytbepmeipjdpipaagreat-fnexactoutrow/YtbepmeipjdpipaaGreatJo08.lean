import Derived.Test.YtbepmeipjdpipaaGreatJo06
import Derived.Test.YtbepmeipjdpipaaGreatJo03
import Derived.Deep.RegionHeld3
namespace Go.Proofs.YtbepmeipjdpipaaGreat
open Go.RowKit
theorem decI (x lo hi : Int) (h1 : lo ≤ x) (h2 : x ≤ hi) : (decide (lo ≤ x) && decide (x ≤ hi)) = true := by rw [decide_eq_true h1, decide_eq_true h2]; rfl
theorem decI_no {x lo hi : Int} (h : (decide (lo ≤ x) && decide (x ≤ hi)) = false) : ¬ (lo ≤ x ∧ x ≤ hi) := fun e => by rw [decI x lo hi e.1 e.2] at h; cases h
theorem decI_yes {x lo hi : Int} (h : (decide (lo ≤ x) && decide (x ≤ hi)) = true) : lo ≤ x ∧ x ≤ hi := by
 simp only [Bool.and_eq_true, decide_eq_true_eq] at h; exact h
set_option maxHeartbeats 16000000 in
set_option maxRecDepth 100000 in
theorem specQueryOk_of (hat : ∀ (x0 x1 x2 : Tx) (w : World), x0.size ≤ 1048576 ∧ x1.size ≤ 1048576 ∧ x2.size ≤ 1048576 → Calls Tryz.prog 21 #[.agg #[.string x0, .string x1, .string x2]] w fun e w' => e = .returned (.bool (atOk (x0, x1, x2))) ∧ Hid (Below w.heap.size w w'))
  (lo hi : Nat) (e : Bool) (a b c : Option Addr) (n1 c1 n2 c2 n3 c3 : Nat) (o : List Tx) (t : List At) (f : List Fl) (w : World) (ha : QIn lo hi w a b c n1 n2 n3 (tC o) (aC t) (fC f)) (hh : hi ≤ w.heap.size) (hl : o.length = n1 ∧ t.length = n2 ∧ f.length = n3) (hz : QLe 1048576 n1 n2 n3 o t f) (hcap : n1 ≤ c1 ∧ c1 ≤ 9223372036854775807) :
  Calls Tryz.prog 6 #[qv e a n1 c1 b n2 c2 c n3 c3] w fun e' w' => e' = .returned (.bool (qOk o t f)) ∧ Hid (Below w.heap.size w w') := by
 obtain ⟨B, HB⟩ : ∃ B, Hid (B = w.heap.size) := ⟨_, rfl⟩
 obtain ⟨W, HW⟩ : ∃ W, Hid (W = w.alloc (.cells #[.bool e, .slice a n1 c1, .slice b n2 c2, .slice c n3 c3] 32)) := ⟨_, rfl⟩
 have HBW : Hid (Below w.heap.size w W) := by rw [HW.out]; exact below1 w _
 have HSW : Hid (W.heap.size = B + 1) := by rw [HW.out, HB.out]; show _ = _; simp
 have HQ : Hid (Blk W B 4 (q4 (.bool e) (.slice a n1 c1) (.slice b n2 c2) (.slice c n3 c3))) := by rw [HW.out]; exact blk_four w B HB.out _ _ _ _ _
 have HA : Hid (QIn lo hi W a b c n1 n2 n3 (tC o) (aC t) (fC f)) := ha.below HBW.out hh
 have HH : Hid (hi ≤ B) := by rw [HB.out]; exact hh
 have HL : Hid (o.length = n1 ∧ t.length = n2 ∧ f.length = n3) := hl
 have HZ : Hid (QLe 1048576 n1 n2 n3 o t f) := hz
 have HAT : Hid (∀ (x0 x1 x2 : Tx) (w : World), x0.size ≤ 1048576 ∧ x1.size ≤ 1048576 ∧ x2.size ≤ 1048576 → Calls Tryz.prog 21 #[.agg #[.string x0, .string x1, .string x2]] w fun e w' => e = .returned (.bool (atOk (x0, x1, x2))) ∧ Hid (Below w.heap.size w w')) := hat
 have HIN : Hid (∀ (x lo hi : Int) (r : Bool) (w0 : World), r = (decide (lo ≤ x) && decide (x ≤ hi)) → Calls Tryz.prog 20 #[.int .i64 x, .int .i64 lo, .int .i64 hi] w0 fun e w' => e = .returned (.bool r) ∧ w0 = w') := fun x lo hi r w0 h => by rw [h]; exact l01In_any x lo hi w0
 obtain ⟨r, HR⟩ : ∃ b : Bool, Hid (b = qOk o t f) := ⟨_, rfl⟩
 have HBAD : Hid (¬ (1 ≤ n2 ∧ n2 ≤ 4 ∧ n3 ≤ 3 ∧ 1 ≤ n1 ∧ n1 ≤ 4) → r = false) := fun h => by rw [HR.out]; exact qOk_bad (by rw [HL.out.1, HL.out.2.1, HL.out.2.2]; exact h)
 rw [← HR.out]
 clear ha hh hl hz hat
 obtain ⟨hcp, hcm⟩ := hcap
 go_enter Tryz.func6, Tryz.ntmps6
 obtain ⟨FF, HFF⟩ : ∃ F : Func, Hid (F = Tryz.f6) := ⟨_, rfl⟩
 rw [← HFF.out]
 go_upto_region 1 with fail
 rw [← HB.out]
 first | rw [← HW.out] | (rw [show _ = W from HW.out.symm])
 clear HW
 obtain ⟨q0, q1, q2, q3⟩ := q_cells HQ.out
 obtain ⟨u1, HU1⟩ : ∃ b : Bool, Hid (b = (decide ((1 : Int) ≤ (n2 : Int)) && decide ((n2 : Int) ≤ 4))) := ⟨_, rfl⟩
 go_wp2_with fail
 refine (HIN.out _ _ _ u1 _ HU1.out).mono ?_
 rintro e1 w1 ⟨rfl, rfl⟩
 rcases Bool.eq_false_or_eq_true u1 with h | h
 rotate_left
 ·subst h
  have hr : r = false := HBAD.out (by have := decI_no HU1.out.symm; omega)
  subst hr
  go_wp2
  obtain rfl : FF = Tryz.f6 := HFF.out
  go_ret
  exact ⟨rfl, HBW.out⟩
 subst h
 have h24 : 1 ≤ n2 ∧ n2 ≤ 4 := by have := decI_yes HU1.out.symm; omega
 by_cases h33 : n3 ≤ 3
 rotate_left
 ·have hr : r = false := HBAD.out (by omega)
  subst hr
  have hg : (n3 : Int) > 3 := by omega
  go_wp2
  obtain rfl : FF = Tryz.f6 := HFF.out
  go_ret
  exact ⟨rfl, HBW.out⟩
 have hg : ¬ (n3 : Int) > 3 := by omega
 obtain ⟨u2, HU2⟩ : ∃ b : Bool, Hid (b = (decide ((1 : Int) ≤ (n1 : Int)) && decide ((n1 : Int) ≤ 4))) := ⟨_, rfl⟩
 go_wp2_with fail
 refine (HIN.out _ _ _ u2 _ HU2.out).mono ?_
 rintro e1 w1 ⟨rfl, rfl⟩
 rcases Bool.eq_false_or_eq_true u2 with h | h
 rotate_left
 ·subst h
  have hr : r = false := HBAD.out (by have := decI_no HU2.out.symm; omega)
  subst hr
  go_wp2
  obtain rfl : FF = Tryz.f6 := HFF.out
  go_ret
  exact ⟨rfl, HBW.out⟩
 subst h
 have h14 : 1 ≤ n1 ∧ n1 ≤ 4 := by have := decI_yes HU2.out.symm; omega
 have HOKN : Hid (1 ≤ n2 ∧ n2 ≤ 4 ∧ n3 ≤ 3 ∧ 1 ≤ n1 ∧ n1 ≤ 4) := ⟨h24.1, h24.2, h33, h14.1, h14.2⟩
 clear HU1 HU2 HBAD q0 q1 q2 q3 hg
 go_wp2
 go_loopw [3] (fun i wr => ∃ k : Nat, i = .int .i64 (k : Int) ∧ k ≤ n2 ∧ Hid (atsOk t k = true) ∧ Hid (Below (B + 1) W wr)) (fun i _ => n2 - (intOf i).toNat)
 case atStart => exact ⟨0, rfl, by omega, rfl, Below.refl _ _⟩
 case round =>
  obtain ⟨k, rfl, hk, HP, HBR⟩ := hrel
  obtain ⟨q0, q1, q2, q3⟩ := q_cells (HQ.out.of_block (HBR.out.block _ (by omega)))
  by_cases hlt : k < n2
  ·have hlt1 : (k : Int) < (n2 : Int) := by omega
   have hlt0 : (0 : Int) ≤ (k : Int) := by omega
   obtain ⟨g, og, rfl, _, hgh, hc⟩ := (HA.out.2.1.below HBR.out (by have := HH.out; omega)).at hlt
   obtain ⟨x, HX⟩ : ∃ x, Hid (x = aat t k) := ⟨_, rfl⟩
   have p0 := hc 0 (by omega)
   have p1 := hc 1 (by omega)
   have p2 := hc 2 (by omega)
   have HSK : Hid (x.1.size ≤ 1048576 ∧ x.2.1.size ≤ 1048576 ∧ x.2.2.size ≤ 1048576) := by rw [HX.out]; exact HZ.out.2.2.1 k hlt
   rw [aC0, ← HX.out] at p0
   rw [aC1, ← HX.out] at p1
   rw [aC2, ← HX.out] at p2
   simp only [Nat.add_zero] at p0
   rw [← Nat.add_assoc] at p1 p2
   obtain ⟨x0, x1, x2⟩ := x
   dsimp only at p0 p1 p2
   clear hc hgh
   obtain ⟨u, HU⟩ : ∃ b : Bool, Hid (b = atOk (x0, x1, x2)) := ⟨_, rfl⟩
   have HCA : Hid (∀ w0, Calls Tryz.prog 21 #[.agg #[.string x0, .string x1, .string x2]] w0 fun e w' => e = .returned (.bool u) ∧ Hid (Below w0.heap.size w0 w')) := fun w0 => by rw [HU.out]; exact HAT.out x0 x1 x2 w0 HSK.out
   go_wp2_with fail
   refine (HCA.out _).mono ?_
   rintro e1 w1 ⟨rfl, HB1⟩
   have HB2 : Hid (Below (B + 1) W w1) := HBR.out.trans (HB1.out.mono (by have := HBR.out.size; have := HSW.out; omega))
   clear HB1 q0 q1 q2 q3 p0 p1 p2
   rcases Bool.eq_false_or_eq_true u with h | h
   ·subst h
    go_wp2
    go_roundw
    case rel => exact ⟨k + 1, by go_num, by omega, by show _ = _; rw [atsOk_succ, HP.out, ← HX.out, ← HU.out]; rfl, HB2⟩
    case measure => simp [intOf]; omega
   ·subst h
    have hr : r = false := by rw [HR.out]; exact qOk_at (by rw [HL.out.2.1]; exact atsOk_no (i := k) hlt (by rw [← HX.out, ← HU.out]))
    subst hr
    go_wp2
    obtain rfl : FF = Tryz.f6 := HFF.out
    go_ret
    exact ⟨rfl, HBW.out.trans (HB2.out.mono (by have := HB.out; omega))⟩
  ·obtain rfl : k = n2 := by omega
   have HATS : Hid (atsOk t t.length = true) := by rw [HL.out.2.1]; exact HP.out
   have HSZR : Hid (B + 1 ≤ wr.heap.size) := by rw [← HSW.out]; exact HBR.out.size
   go_upto_region 9 with (go_at_call 22; refine (specNames_any lo hi e a b c n1 c1 k c2 n3 c3 o t f _ (HA.out.below HBR.out (by have := HH.out; omega)) (by have := HH.out; have := HSZR.out; omega) (by omega)).mono ?_; rintro e1 w1 ⟨ao, nn, cc, rfl, HNN, HNM, HB1⟩)
   obtain ⟨ns, HNS⟩ : ∃ ns, Hid (ns = nmL t t.length) := ⟨_, rfl⟩
   have HNSk : Hid (nmL t k = ns) := by show _ = _; rw [HNS.out, HL.out.2.1]
   rw [HNSk.out] at HNN HNM
   have HB2 : Hid (Below (B + 1) W w1) := HBR.out.trans (HB1.out.mono HSZR.out)
   have HS1 : Hid (B + 1 ≤ w1.heap.size) := Nat.le_trans HSZR.out HB1.out.size
   have HQ1 : Hid (Blk w1 B 4 (q4 (.bool e) (.slice a n1 c1) (.slice b k c2) (.slice c n3 c3))) := HQ.out.of_block (HB2.out.block _ (by omega))
   have HA1 : Hid (QIn lo hi w1 a b c n1 k n3 (tC o) (aC t) (fC f)) := HA.out.below HB2.out (by have := HH.out; omega)
   have HNL : Hid (nn ≤ 8) := by have h1 := nmL_len t k; rw [HNSk.out, HNN.out] at h1; show nn ≤ 8; omega
   have HIL : Hid (∀ (x : Tx) (u : Bool) (w0 : World), Below w1.heap.size w1 w0 → u = inL x ns → Calls Tryz.prog 23 #[.slice ao nn cc, .string x] w0 fun e w' => e = .returned (.bool u) ∧ w0 = w') := fun x u w0 h1 h2 => l08In_any wr.heap.size w1.heap.size ao nn cc ns x u w0 (HNM.out.toIn.below h1 (Nat.le_refl _)) HNN.out (by have := HNL.out; omega) h2
   have HIO : Hid (∀ (k : Nat) (x : Tx) (u : Bool) (w0 : World), k ≤ n1 → Below w1.heap.size w1 w0 → u = inL x (o.take k) → Calls Tryz.prog 23 #[.slice a k c1, .string x] w0 fun e w' => e = .returned (.bool u) ∧ w0 = w') := fun k x u w0 h0 h1 h2 => l08In_any lo hi a k c1 (o.take k) x u w0 ((HA1.out.1.below h1 (by have := HH.out; have := HS1.out; omega)).take h0) (by rw [List.length_take, HL.out.1]; omega) (by omega) h2
   clear HB1 q0 q1 q2 q3 HNM HA HQ HP HNSk
   go_wp2
   go_loopw [5] (fun i wr => ∃ j : Nat, i = .int .i64 (j : Int) ∧ j ≤ n1 ∧ Hid (ousOk ns o j = true) ∧ Hid (Below w1.heap.size w1 wr)) (fun i _ => n1 - (intOf i).toNat)
   case atStart => exact ⟨0, rfl, by omega, rfl, Below.refl _ _⟩
   case round =>
    obtain ⟨j, rfl, hj, HPO, HBO⟩ := hrel
    obtain ⟨q0, q1, q2, q3⟩ := q_cells (HQ1.out.of_block (HBO.out.block _ HQ1.out.lt))
    by_cases hlj : j < n1
    ·have hlj1 : (j : Int) < (n1 : Int) := by omega
     have hlj0 : (0 : Int) ≤ (j : Int) := by omega
     obtain ⟨g, og, rfl, _, hgh, hc⟩ := (HA1.out.1.below HBO.out (by have := HH.out; have := HS1.out; omega)).at hlj
     obtain ⟨y, HY⟩ : ∃ y, Hid (y = tat o j) := ⟨_, rfl⟩
     have p0 := hc 0 (by omega)
     rw [tC0, ← HY.out, Nat.mul_one, Nat.add_zero] at p0
     clear hc hgh
     obtain ⟨u, HU⟩ : ∃ b : Bool, Hid (b = inL y ns) := ⟨_, rfl⟩
     obtain ⟨v, HV⟩ : ∃ b : Bool, Hid (b = inL y (o.take j)) := ⟨_, rfl⟩
     have HSU : Hid (ouOk ns o j = (u && !v)) := by rw [HU.out, HV.out, HY.out]; rfl
     have HNO : Hid (ouOk ns o j = false → r = false) := fun h => by rw [HR.out]; exact qOk_ou (by rw [← HNS.out, HL.out.1]; exact ousOk_no (i := j) hlj h)
     have HBD : Hid (Below w1.heap.size w1 wr.drew) := HBO.out.drew
     have HCU : Hid (Calls Tryz.prog 23 #[.slice ao nn cc, .string y] wr.drew fun e w' => e = .returned (.bool u) ∧ wr.drew = w') := HIL.out y u _ HBD.out HU.out
     have HCV : Hid (Calls Tryz.prog 23 #[.slice (some ⟨g, og, none⟩) j c1, .string y] wr.drew fun e w' => e = .returned (.bool v) ∧ wr.drew = w') := HIO.out j y v _ hj HBD.out HV.out
     have HSD : Hid (wr.drew.cell? ⟨B, 1, none⟩ = some (.slice (some ⟨g, og, none⟩) n1 c1) ∧ wr.drew.cell? ⟨g, og + j, none⟩ = some (.string y)) := ⟨q1, p0⟩
     go_upto_region 12 with fail
     have hjc : j ≤ c1 := by omega
     clear q0 q1 q2 q3 p0
     rcases Bool.eq_false_or_eq_true u with h | h
     ·subst h
      refine wp_region_held_drew (S := fun wz => wz.cell? ⟨B, 1, none⟩ = some (.slice (some ⟨g, og, none⟩) n1 c1) ∧ wz.cell? ⟨g, og + j, none⟩ = some (.string y)) (by kernel_rfl) HSD.out (fun hHeld => ?_)
      refine wpAnyH_take (i := 0) (oi := { dst := some 49, op := Op.move (.tmp 4), type := 22, pos := "l08_query.go:56", after := #[], guard := none }) (v := ?_) rfl (by kernel_rfl) (by kernel_rfl) (by kernel_rfl) (fun _ _ _ h => h) (Or.inl ⟨by kernel_rfl, ?_⟩) (by assumption) ?_
      rotate_left
      ·intro w hSw; (try dsimp only at hSw); go_simp; try with_reducible rfl
      simp only [Act.put, List.setIfInBounds_toArray, List.set_cons_zero, List.set_cons_succ]
      refine wpAnyH_take (i := 1) (oi := { dst := some 50, op := Op.fieldAddr 32 (.tmp 1) 1, type := 0, pos := "l08_query.go:56", after := #[], guard := none }) (v := ?_) rfl (by kernel_rfl) (by kernel_rfl) (by kernel_rfl) (fun _ _ _ h => h) (Or.inl ⟨by kernel_rfl, ?_⟩) (by assumption) ?_
      rotate_left
      ·intro w hSw; (try dsimp only at hSw); go_simp; try with_reducible rfl
      simp only [Act.put, List.setIfInBounds_toArray, List.set_cons_zero, List.set_cons_succ]
      refine wpAnyH_take (i := 2) (oi := { dst := some 51, op := Op.load 22 (.tmp 50), type := 22, pos := "l08_query.go:56", after := #[{ on := 1, ground := .data }], guard := none }) (v := ?_) rfl (by kernel_rfl) (by kernel_rfl) (by kernel_rfl) (fun _ _ _ h => h) (Or.inl ⟨by kernel_rfl, ?_⟩) (by assumption) ?_
      rotate_left
      ·intro w hSw; (try dsimp only at hSw); go_simp; try with_reducible rfl
      simp only [Act.put, List.setIfInBounds_toArray, List.set_cons_zero, List.set_cons_succ]
      refine wpAnyH_take (i := 3) (oi := { dst := some 52, op := Op.move (.tmp 5), type := 3, pos := "l08_query.go:56", after := #[], guard := none }) (v := ?_) rfl (by kernel_rfl) (by kernel_rfl) (by kernel_rfl) (fun _ _ _ h => h) (Or.inl ⟨by kernel_rfl, ?_⟩) (by assumption) ?_
      rotate_left
      ·intro w hSw; (try dsimp only at hSw); go_simp; try with_reducible rfl
      simp only [Act.put, List.setIfInBounds_toArray, List.set_cons_zero, List.set_cons_succ]
      refine wpAnyH_take (i := 4) (oi := { dst := some 53, op := Op.indexAddr 22 (.tmp 51) (.tmp 52), type := 0, pos := "l08_query.go:56", after := #[{ on := 2, ground := .data }, { on := 3, ground := .data }], guard := none }) (v := ?_) rfl (by kernel_rfl) (by kernel_rfl) (by kernel_rfl) (fun _ _ _ h => h) (Or.inl ⟨by kernel_rfl, ?_⟩) (by assumption) ?_
      rotate_left
      ·intro w hSw; (try dsimp only at hSw); go_simp; try with_reducible rfl
      simp only [Act.put, List.setIfInBounds_toArray, List.set_cons_zero, List.set_cons_succ]
      refine wpAnyH_take (i := 5) (oi := { dst := some 54, op := Op.load 9 (.tmp 53), type := 9, pos := "l08_query.go:56", after := #[{ on := 4, ground := .data }], guard := none }) (v := ?_) rfl (by kernel_rfl) (by kernel_rfl) (by kernel_rfl) (fun _ _ _ h => h) (Or.inl ⟨by kernel_rfl, ?_⟩) (by assumption) ?_
      rotate_left
      ·intro w hSw; (try dsimp only at hSw); go_simp; try with_reducible rfl
      simp only [Act.put, List.setIfInBounds_toArray, List.set_cons_zero, List.set_cons_succ]
      refine wpAnyH_ready (rs := [6]) (by kernel_rfl) (by simp) ?_
      refine AllReadyH.cons (o := { dst := some 55, op := Op.call { callee := Callee.value (.func 23), args := #[.tmp 49, .tmp 54], argTypes := #[22, 9] }, type := 4, pos := "l08_query.go:56", after := #[{ on := 0, ground := .data }, { on := 5, ground := .data }], guard := none }) rfl (fun K hK => ?_) ?_
      ·go_wp2_with (go_at_call 23; refine HCU.out.mono ?_; rintro e1 w6 ⟨rfl, rfl⟩)
       refine hK.out _ _ hHeld (fun hHeld => ?_)
       clear hK K
       try simp only [Act.put, List.setIfInBounds_toArray, List.set_cons_zero, List.set_cons_succ]
       refine wpAnyH_take (i := 7) (oi := { dst := some 56, op := Op.unOp Go.UnOp.not 4 (.tmp 55), type := 4, pos := "l08_query.go:56", after := #[{ on := 6, ground := .data }], guard := none }) (v := ?_) rfl (by kernel_rfl) (by kernel_rfl) (by kernel_rfl) (fun _ _ _ h => h) (Or.inl ⟨by kernel_rfl, ?_⟩) (by assumption) ?_
       rotate_left
       ·intro w hSw; (try dsimp only at hSw); go_simp; try with_reducible rfl
       simp only [Act.put, List.setIfInBounds_toArray, List.set_cons_zero, List.set_cons_succ]
       refine wpAnyH_take (i := 8) (oi := { dst := some 57, op := Op.move (.tmp 56), type := 4, pos := "l08_query.go:56", after := #[{ on := 7, ground := .data }, { on := 6, ground := .chain }], guard := none }) (v := ?_) rfl (by kernel_rfl) (by kernel_rfl) (by kernel_rfl) (fun _ _ _ h => h) (Or.inl ⟨by kernel_rfl, ?_⟩) (by assumption) ?_
       rotate_left
       ·intro w hSw; (try dsimp only at hSw); go_simp; try with_reducible rfl
       simp only [Act.put, List.setIfInBounds_toArray, List.set_cons_zero, List.set_cons_succ]
       refine wpAnyH_take (i := 9) (oi := { dst := some 58, op := Op.fieldAddr 32 (.tmp 1) 1, type := 0, pos := "l08_query.go:56", after := #[{ on := 8, ground := .guard }], guard := some (8, false) }) (v := ?_) rfl (by kernel_rfl) (by kernel_rfl) (by kernel_rfl) (fun _ _ _ h => h) (Or.inl ⟨by kernel_rfl, ?_⟩) (by assumption) ?_
       rotate_left
       ·intro w hSw; (try dsimp only at hSw); go_simp; try with_reducible rfl
       simp only [Act.put, List.setIfInBounds_toArray, List.set_cons_zero, List.set_cons_succ]
       refine wpAnyH_take (i := 10) (oi := { dst := some 59, op := Op.load 22 (.tmp 58), type := 22, pos := "l08_query.go:56", after := #[{ on := 9, ground := .data }, { on := 8, ground := .guard }], guard := some (8, false) }) (v := ?_) rfl (by kernel_rfl) (by kernel_rfl) (by kernel_rfl) (fun _ _ _ h => h) (Or.inl ⟨by kernel_rfl, ?_⟩) (by assumption) ?_
       rotate_left
       ·intro w hSw; (try dsimp only at hSw); go_simp; try with_reducible rfl
       simp only [Act.put, List.setIfInBounds_toArray, List.set_cons_zero, List.set_cons_succ]
       refine wpAnyH_take (i := 11) (oi := { dst := some 60, op := Op.move (.tmp 5), type := 3, pos := "l08_query.go:56", after := #[{ on := 8, ground := .guard }], guard := some (8, false) }) (v := ?_) rfl (by kernel_rfl) (by kernel_rfl) (by kernel_rfl) (fun _ _ _ h => h) (Or.inl ⟨by kernel_rfl, ?_⟩) (by assumption) ?_
       rotate_left
       ·intro w hSw; (try dsimp only at hSw); go_simp; try with_reducible rfl
       simp only [Act.put, List.setIfInBounds_toArray, List.set_cons_zero, List.set_cons_succ]
       refine wpAnyH_take (i := 12) (oi := { dst := some 61, op := Op.slice 22 (.tmp 59) none (some (.tmp 60)) none, type := 22, pos := "l08_query.go:56", after := #[{ on := 10, ground := .data }, { on := 11, ground := .data }, { on := 8, ground := .guard }], guard := some (8, false) }) (v := ?_) rfl (by kernel_rfl) (by kernel_rfl) (by kernel_rfl) (fun _ _ _ h => h) (Or.inl ⟨by kernel_rfl, ?_⟩) (by assumption) ?_
       rotate_left
       ·intro w hSw; (try dsimp only at hSw); go_simp; try with_reducible rfl
       simp only [Act.put, List.setIfInBounds_toArray, List.set_cons_zero, List.set_cons_succ]
       refine wpAnyH_take (i := 13) (oi := { dst := some 62, op := Op.fieldAddr 32 (.tmp 1) 1, type := 0, pos := "l08_query.go:56", after := #[{ on := 8, ground := .guard }], guard := some (8, false) }) (v := ?_) rfl (by kernel_rfl) (by kernel_rfl) (by kernel_rfl) (fun _ _ _ h => h) (Or.inl ⟨by kernel_rfl, ?_⟩) (by assumption) ?_
       rotate_left
       ·intro w hSw; (try dsimp only at hSw); go_simp; try with_reducible rfl
       simp only [Act.put, List.setIfInBounds_toArray, List.set_cons_zero, List.set_cons_succ]
       refine wpAnyH_take (i := 14) (oi := { dst := some 63, op := Op.load 22 (.tmp 62), type := 22, pos := "l08_query.go:56", after := #[{ on := 13, ground := .data }, { on := 8, ground := .guard }], guard := some (8, false) }) (v := ?_) rfl (by kernel_rfl) (by kernel_rfl) (by kernel_rfl) (fun _ _ _ h => h) (Or.inl ⟨by kernel_rfl, ?_⟩) (by assumption) ?_
       rotate_left
       ·intro w hSw; (try dsimp only at hSw); go_simp; try with_reducible rfl
       simp only [Act.put, List.setIfInBounds_toArray, List.set_cons_zero, List.set_cons_succ]
       refine wpAnyH_take (i := 15) (oi := { dst := some 64, op := Op.move (.tmp 5), type := 3, pos := "l08_query.go:56", after := #[{ on := 8, ground := .guard }], guard := some (8, false) }) (v := ?_) rfl (by kernel_rfl) (by kernel_rfl) (by kernel_rfl) (fun _ _ _ h => h) (Or.inl ⟨by kernel_rfl, ?_⟩) (by assumption) ?_
       rotate_left
       ·intro w hSw; (try dsimp only at hSw); go_simp; try with_reducible rfl
       simp only [Act.put, List.setIfInBounds_toArray, List.set_cons_zero, List.set_cons_succ]
       refine wpAnyH_take (i := 16) (oi := { dst := some 65, op := Op.indexAddr 22 (.tmp 63) (.tmp 64), type := 0, pos := "l08_query.go:56", after := #[{ on := 14, ground := .data }, { on := 15, ground := .data }, { on := 8, ground := .guard }], guard := some (8, false) }) (v := ?_) rfl (by kernel_rfl) (by kernel_rfl) (by kernel_rfl) (fun _ _ _ h => h) (Or.inl ⟨by kernel_rfl, ?_⟩) (by assumption) ?_
       rotate_left
       ·intro w hSw; (try dsimp only at hSw); go_simp; try with_reducible rfl
       simp only [Act.put, List.setIfInBounds_toArray, List.set_cons_zero, List.set_cons_succ]
       refine wpAnyH_take (i := 17) (oi := { dst := some 66, op := Op.load 9 (.tmp 65), type := 9, pos := "l08_query.go:56", after := #[{ on := 16, ground := .data }, { on := 8, ground := .guard }], guard := some (8, false) }) (v := ?_) rfl (by kernel_rfl) (by kernel_rfl) (by kernel_rfl) (fun _ _ _ h => h) (Or.inl ⟨by kernel_rfl, ?_⟩) (by assumption) ?_
       rotate_left
       ·intro w hSw; (try dsimp only at hSw); go_simp; try with_reducible rfl
       simp only [Act.put, List.setIfInBounds_toArray, List.set_cons_zero, List.set_cons_succ]
       refine wpAnyH_ready (rs := [18]) (by kernel_rfl) (by simp) ?_
       refine AllReadyH.cons (o := { dst := some 67, op := Op.call { callee := Callee.value (.func 23), args := #[.tmp 61, .tmp 66], argTypes := #[22, 9] }, type := 4, pos := "l08_query.go:56", after := #[{ on := 12, ground := .data }, { on := 17, ground := .data }, { on := 8, ground := .chain }, { on := 8, ground := .guard }], guard := some (8, false) }) rfl (fun K hK => ?_) ?_
       ·rw [if_pos (by kernel_rfl)]
        go_wp2_with (go_at_call 23; refine HCV.out.mono ?_; rintro e1 w6 ⟨rfl, rfl⟩)
        refine hK.out _ _ hHeld (fun hHeld => ?_)
        clear hK K
        try simp only [Act.put, List.setIfInBounds_toArray, List.set_cons_zero, List.set_cons_succ]
        refine wpAnyH_take (i := 19) (oi := { dst := some 68, op := Op.pick (.tmp 57) (.const (Value.bool true)) (.tmp 67), type := 4, pos := "l08_query.go:56", after := #[{ on := 8, ground := .data }, { on := 18, ground := .data }], guard := none }) (v := ?_) rfl (by kernel_rfl) (by kernel_rfl) (by kernel_rfl) (fun _ _ _ h => h) (Or.inl ⟨by kernel_rfl, ?_⟩) (by assumption) ?_
        rotate_left
        ·intro w hSw; (try dsimp only at hSw); go_simp; try with_reducible rfl
        simp only [Act.put, List.setIfInBounds_toArray, List.set_cons_zero, List.set_cons_succ]
        refine wpAnyH_done (by kernel_rfl) ?_ _
        clear hHeld
        rcases Bool.eq_false_or_eq_true v with h | h
        ·subst h
         have hr : r = false := HNO.out (by rw [HSU.out]; rfl)
         subst hr
         have HBE : Hid (Below w.heap.size w wr.drew) := HBW.out.trans ((HB2.out.trans (HBD.out.mono HS1.out)).mono (by have := HB.out; omega))
         go_wp2
         obtain rfl : FF = Tryz.f6 := HFF.out
         go_ret
         exact ⟨rfl, HBE.out⟩
        ·subst h
         go_wp2
         go_roundw
         case rel => exact ⟨j + 1, by go_num, by omega, by show _ = _; rw [ousOk_succ, HPO.out, HSU.out]; rfl, HBD⟩
         case measure => simp [intOf]; omega
       exact AllReadyH.nil
      exact AllReadyH.nil
     ·subst h
      refine wp_region_held_drew (S := fun wz => wz.cell? ⟨B, 1, none⟩ = some (.slice (some ⟨g, og, none⟩) n1 c1) ∧ wz.cell? ⟨g, og + j, none⟩ = some (.string y)) (by kernel_rfl) HSD.out (fun hHeld => ?_)
      refine wpAnyH_take (i := 0) (oi := { dst := some 49, op := Op.move (.tmp 4), type := 22, pos := "l08_query.go:56", after := #[], guard := none }) (v := ?_) rfl (by kernel_rfl) (by kernel_rfl) (by kernel_rfl) (fun _ _ _ h => h) (Or.inl ⟨by kernel_rfl, ?_⟩) (by assumption) ?_
      rotate_left
      ·intro w hSw; (try dsimp only at hSw); go_simp; try with_reducible rfl
      simp only [Act.put, List.setIfInBounds_toArray, List.set_cons_zero, List.set_cons_succ]
      refine wpAnyH_take (i := 1) (oi := { dst := some 50, op := Op.fieldAddr 32 (.tmp 1) 1, type := 0, pos := "l08_query.go:56", after := #[], guard := none }) (v := ?_) rfl (by kernel_rfl) (by kernel_rfl) (by kernel_rfl) (fun _ _ _ h => h) (Or.inl ⟨by kernel_rfl, ?_⟩) (by assumption) ?_
      rotate_left
      ·intro w hSw; (try dsimp only at hSw); go_simp; try with_reducible rfl
      simp only [Act.put, List.setIfInBounds_toArray, List.set_cons_zero, List.set_cons_succ]
      refine wpAnyH_take (i := 2) (oi := { dst := some 51, op := Op.load 22 (.tmp 50), type := 22, pos := "l08_query.go:56", after := #[{ on := 1, ground := .data }], guard := none }) (v := ?_) rfl (by kernel_rfl) (by kernel_rfl) (by kernel_rfl) (fun _ _ _ h => h) (Or.inl ⟨by kernel_rfl, ?_⟩) (by assumption) ?_
      rotate_left
      ·intro w hSw; (try dsimp only at hSw); go_simp; try with_reducible rfl
      simp only [Act.put, List.setIfInBounds_toArray, List.set_cons_zero, List.set_cons_succ]
      refine wpAnyH_take (i := 3) (oi := { dst := some 52, op := Op.move (.tmp 5), type := 3, pos := "l08_query.go:56", after := #[], guard := none }) (v := ?_) rfl (by kernel_rfl) (by kernel_rfl) (by kernel_rfl) (fun _ _ _ h => h) (Or.inl ⟨by kernel_rfl, ?_⟩) (by assumption) ?_
      rotate_left
      ·intro w hSw; (try dsimp only at hSw); go_simp; try with_reducible rfl
      simp only [Act.put, List.setIfInBounds_toArray, List.set_cons_zero, List.set_cons_succ]
      refine wpAnyH_take (i := 4) (oi := { dst := some 53, op := Op.indexAddr 22 (.tmp 51) (.tmp 52), type := 0, pos := "l08_query.go:56", after := #[{ on := 2, ground := .data }, { on := 3, ground := .data }], guard := none }) (v := ?_) rfl (by kernel_rfl) (by kernel_rfl) (by kernel_rfl) (fun _ _ _ h => h) (Or.inl ⟨by kernel_rfl, ?_⟩) (by assumption) ?_
      rotate_left
      ·intro w hSw; (try dsimp only at hSw); go_simp; try with_reducible rfl
      simp only [Act.put, List.setIfInBounds_toArray, List.set_cons_zero, List.set_cons_succ]
      refine wpAnyH_take (i := 5) (oi := { dst := some 54, op := Op.load 9 (.tmp 53), type := 9, pos := "l08_query.go:56", after := #[{ on := 4, ground := .data }], guard := none }) (v := ?_) rfl (by kernel_rfl) (by kernel_rfl) (by kernel_rfl) (fun _ _ _ h => h) (Or.inl ⟨by kernel_rfl, ?_⟩) (by assumption) ?_
      rotate_left
      ·intro w hSw; (try dsimp only at hSw); go_simp; try with_reducible rfl
      simp only [Act.put, List.setIfInBounds_toArray, List.set_cons_zero, List.set_cons_succ]
      refine wpAnyH_ready (rs := [6]) (by kernel_rfl) (by simp) ?_
      refine AllReadyH.cons (o := { dst := some 55, op := Op.call { callee := Callee.value (.func 23), args := #[.tmp 49, .tmp 54], argTypes := #[22, 9] }, type := 4, pos := "l08_query.go:56", after := #[{ on := 0, ground := .data }, { on := 5, ground := .data }], guard := none }) rfl (fun K hK => ?_) ?_
      ·go_wp2_with (go_at_call 23; refine HCU.out.mono ?_; rintro e1 w6 ⟨rfl, rfl⟩)
       refine hK.out _ _ hHeld (fun hHeld => ?_)
       clear hK K
       try simp only [Act.put, List.setIfInBounds_toArray, List.set_cons_zero, List.set_cons_succ]
       refine wpAnyH_take (i := 7) (oi := { dst := some 56, op := Op.unOp Go.UnOp.not 4 (.tmp 55), type := 4, pos := "l08_query.go:56", after := #[{ on := 6, ground := .data }], guard := none }) (v := ?_) rfl (by kernel_rfl) (by kernel_rfl) (by kernel_rfl) (fun _ _ _ h => h) (Or.inl ⟨by kernel_rfl, ?_⟩) (by assumption) ?_
       rotate_left
       ·intro w hSw; (try dsimp only at hSw); go_simp; try with_reducible rfl
       simp only [Act.put, List.setIfInBounds_toArray, List.set_cons_zero, List.set_cons_succ]
       refine wpAnyH_take (i := 8) (oi := { dst := some 57, op := Op.move (.tmp 56), type := 4, pos := "l08_query.go:56", after := #[{ on := 7, ground := .data }, { on := 6, ground := .chain }], guard := none }) (v := ?_) rfl (by kernel_rfl) (by kernel_rfl) (by kernel_rfl) (fun _ _ _ h => h) (Or.inl ⟨by kernel_rfl, ?_⟩) (by assumption) ?_
       rotate_left
       ·intro w hSw; (try dsimp only at hSw); go_simp; try with_reducible rfl
       simp only [Act.put, List.setIfInBounds_toArray, List.set_cons_zero, List.set_cons_succ]
       refine wpAnyH_take (i := 9) (oi := { dst := some 58, op := Op.fieldAddr 32 (.tmp 1) 1, type := 0, pos := "l08_query.go:56", after := #[{ on := 8, ground := .guard }], guard := some (8, false) }) (v := undef) rfl (by kernel_rfl) (by kernel_rfl) (by kernel_rfl) (fun _ _ _ h => h) (Or.inr ⟨by kernel_rfl, rfl⟩) (by assumption) ?_
       simp only [Act.put, List.setIfInBounds_toArray, List.set_cons_zero, List.set_cons_succ]
       refine wpAnyH_take (i := 10) (oi := { dst := some 59, op := Op.load 22 (.tmp 58), type := 22, pos := "l08_query.go:56", after := #[{ on := 9, ground := .data }, { on := 8, ground := .guard }], guard := some (8, false) }) (v := undef) rfl (by kernel_rfl) (by kernel_rfl) (by kernel_rfl) (fun _ _ _ h => h) (Or.inr ⟨by kernel_rfl, rfl⟩) (by assumption) ?_
       simp only [Act.put, List.setIfInBounds_toArray, List.set_cons_zero, List.set_cons_succ]
       refine wpAnyH_take (i := 11) (oi := { dst := some 60, op := Op.move (.tmp 5), type := 3, pos := "l08_query.go:56", after := #[{ on := 8, ground := .guard }], guard := some (8, false) }) (v := undef) rfl (by kernel_rfl) (by kernel_rfl) (by kernel_rfl) (fun _ _ _ h => h) (Or.inr ⟨by kernel_rfl, rfl⟩) (by assumption) ?_
       simp only [Act.put, List.setIfInBounds_toArray, List.set_cons_zero, List.set_cons_succ]
       refine wpAnyH_take (i := 12) (oi := { dst := some 61, op := Op.slice 22 (.tmp 59) none (some (.tmp 60)) none, type := 22, pos := "l08_query.go:56", after := #[{ on := 10, ground := .data }, { on := 11, ground := .data }, { on := 8, ground := .guard }], guard := some (8, false) }) (v := undef) rfl (by kernel_rfl) (by kernel_rfl) (by kernel_rfl) (fun _ _ _ h => h) (Or.inr ⟨by kernel_rfl, rfl⟩) (by assumption) ?_
       simp only [Act.put, List.setIfInBounds_toArray, List.set_cons_zero, List.set_cons_succ]
       refine wpAnyH_take (i := 13) (oi := { dst := some 62, op := Op.fieldAddr 32 (.tmp 1) 1, type := 0, pos := "l08_query.go:56", after := #[{ on := 8, ground := .guard }], guard := some (8, false) }) (v := undef) rfl (by kernel_rfl) (by kernel_rfl) (by kernel_rfl) (fun _ _ _ h => h) (Or.inr ⟨by kernel_rfl, rfl⟩) (by assumption) ?_
       simp only [Act.put, List.setIfInBounds_toArray, List.set_cons_zero, List.set_cons_succ]
       refine wpAnyH_take (i := 14) (oi := { dst := some 63, op := Op.load 22 (.tmp 62), type := 22, pos := "l08_query.go:56", after := #[{ on := 13, ground := .data }, { on := 8, ground := .guard }], guard := some (8, false) }) (v := undef) rfl (by kernel_rfl) (by kernel_rfl) (by kernel_rfl) (fun _ _ _ h => h) (Or.inr ⟨by kernel_rfl, rfl⟩) (by assumption) ?_
       simp only [Act.put, List.setIfInBounds_toArray, List.set_cons_zero, List.set_cons_succ]
       refine wpAnyH_take (i := 15) (oi := { dst := some 64, op := Op.move (.tmp 5), type := 3, pos := "l08_query.go:56", after := #[{ on := 8, ground := .guard }], guard := some (8, false) }) (v := undef) rfl (by kernel_rfl) (by kernel_rfl) (by kernel_rfl) (fun _ _ _ h => h) (Or.inr ⟨by kernel_rfl, rfl⟩) (by assumption) ?_
       simp only [Act.put, List.setIfInBounds_toArray, List.set_cons_zero, List.set_cons_succ]
       refine wpAnyH_take (i := 16) (oi := { dst := some 65, op := Op.indexAddr 22 (.tmp 63) (.tmp 64), type := 0, pos := "l08_query.go:56", after := #[{ on := 14, ground := .data }, { on := 15, ground := .data }, { on := 8, ground := .guard }], guard := some (8, false) }) (v := undef) rfl (by kernel_rfl) (by kernel_rfl) (by kernel_rfl) (fun _ _ _ h => h) (Or.inr ⟨by kernel_rfl, rfl⟩) (by assumption) ?_
       simp only [Act.put, List.setIfInBounds_toArray, List.set_cons_zero, List.set_cons_succ]
       refine wpAnyH_take (i := 17) (oi := { dst := some 66, op := Op.load 9 (.tmp 65), type := 9, pos := "l08_query.go:56", after := #[{ on := 16, ground := .data }, { on := 8, ground := .guard }], guard := some (8, false) }) (v := undef) rfl (by kernel_rfl) (by kernel_rfl) (by kernel_rfl) (fun _ _ _ h => h) (Or.inr ⟨by kernel_rfl, rfl⟩) (by assumption) ?_
       simp only [Act.put, List.setIfInBounds_toArray, List.set_cons_zero, List.set_cons_succ]
       refine wpAnyH_ready (rs := [18]) (by kernel_rfl) (by simp) ?_
       refine AllReadyH.cons (o := { dst := some 67, op := Op.call { callee := Callee.value (.func 23), args := #[.tmp 61, .tmp 66], argTypes := #[22, 9] }, type := 4, pos := "l08_query.go:56", after := #[{ on := 12, ground := .data }, { on := 17, ground := .data }, { on := 8, ground := .chain }, { on := 8, ground := .guard }], guard := some (8, false) }) rfl (fun K hK => ?_) ?_
       ·rw [if_neg (by refine Bool.eq_false_iff.1 ?_; kernel_rfl)]
        refine hK.out _ _ hHeld (fun hHeld => ?_)
        clear hK K
        try simp only [Act.put, List.setIfInBounds_toArray, List.set_cons_zero, List.set_cons_succ]
        refine wpAnyH_take (i := 19) (oi := { dst := some 68, op := Op.pick (.tmp 57) (.const (Value.bool true)) (.tmp 67), type := 4, pos := "l08_query.go:56", after := #[{ on := 8, ground := .data }, { on := 18, ground := .data }], guard := none }) (v := ?_) rfl (by kernel_rfl) (by kernel_rfl) (by kernel_rfl) (fun _ _ _ h => h) (Or.inl ⟨by kernel_rfl, ?_⟩) (by assumption) ?_
        rotate_left
        ·intro w hSw; (try dsimp only at hSw); go_simp; try with_reducible rfl
        simp only [Act.put, List.setIfInBounds_toArray, List.set_cons_zero, List.set_cons_succ]
        refine wpAnyH_done (by kernel_rfl) ?_ _
        clear hHeld
        have hr : r = false := HNO.out (by rw [HSU.out]; rfl)
        subst hr
        have HBE : Hid (Below w.heap.size w wr.drew) := HBW.out.trans ((HB2.out.trans (HBD.out.mono HS1.out)).mono (by have := HB.out; omega))
        go_wp2
        obtain rfl : FF = Tryz.f6 := HFF.out
        go_ret
        exact ⟨rfl, HBE.out⟩
       exact AllReadyH.nil
      exact AllReadyH.nil
    ·obtain rfl : j = n1 := by omega
     have HOUS : Hid (ousOk (nmL t t.length) o o.length = true) := by rw [← HNS.out, HL.out.1]; exact HPO.out
     go_upto_region 14 with fail
     clear q0 q1 q2 q3
     go_wp2
     go_loopw [6] (fun i wr => ∃ m : Nat, i = .int .i64 (m : Int) ∧ m ≤ n3 ∧ Hid (flsOk ns f m = true) ∧ Hid (Below w1.heap.size w1 wr)) (fun i _ => n3 - (intOf i).toNat)
     case atStart => exact ⟨0, rfl, by omega, rfl, HBO⟩
     case round =>
      obtain ⟨m, rfl, hm, HPF, HBF⟩ := hrel
      obtain ⟨q0, q1, q2, q3⟩ := q_cells (HQ1.out.of_block (HBF.out.block _ HQ1.out.lt))
      by_cases hlm : m < n3
      ·have hlm1 : (m : Int) < (n3 : Int) := by omega
       have hlm0 : (0 : Int) ≤ (m : Int) := by omega
       obtain ⟨g, og, rfl, _, hgh, hc⟩ := (HA1.out.2.2.below HBF.out (by have := HH.out; have := HS1.out; omega)).at hlm
       obtain ⟨x, HX⟩ : ∃ x, Hid (x = fat f m) := ⟨_, rfl⟩
       have p0 := hc 0 (by omega)
       have p1 := hc 1 (by omega)
       have p2 := hc 2 (by omega)
       have p3 := hc 3 (by omega)
       rw [fC0, ← HX.out] at p0
       rw [fC1, ← HX.out] at p1
       rw [fC2, ← HX.out] at p2
       rw [fC3, ← HX.out] at p3
       simp only [Nat.add_zero] at p0
       rw [← Nat.add_assoc] at p1 p2 p3
       obtain ⟨f0, f1, f2, f3⟩ := x
       dsimp only at p0 p1 p2 p3
       clear hc hgh
       obtain ⟨W4, HW4⟩ : ∃ W4, Hid (W4 = wr.alloc (.cells #[.string f0, .int .i64 f1, .string f2, .int .i64 f3] 53)) := ⟨_, rfl⟩
       obtain ⟨E, HE⟩ : ∃ E, Hid (E = wr.heap.size) := ⟨_, rfl⟩
       have HX4 : Hid (Blk W4 E 4 (q4 (.string f0) (.int .i64 f1) (.string f2) (.int .i64 f3))) := by rw [HW4.out]; exact blk_four wr E HE.out _ _ _ _ _
       have HB4 : Hid (Below w1.heap.size w1 W4) := by rw [HW4.out]; exact HBF.out.trans ((below1 wr _).mono HBF.out.size)
       go_upto_region 18 with fail
       rw [← HE.out]
       first | rw [← HW4.out] | (rw [show _ = W4 from HW4.out.symm])
       clear HW4 q0 q1 q2 q3 p0 p1 p2 p3
       obtain ⟨z0, z1, z2, z3⟩ := q_cells HX4.out
       obtain ⟨u0, HU0⟩ : ∃ b : Bool, Hid (b = inL f0 ns) := ⟨_, rfl⟩
       obtain ⟨u1, HU1⟩ : ∃ b : Bool, Hid (b = (decide ((1 : Int) ≤ f1) && decide (f1 ≤ 2))) := ⟨_, rfl⟩
       obtain ⟨u2, HU2⟩ : ∃ b : Bool, Hid (b = inL f2 ns) := ⟨_, rfl⟩
       obtain ⟨u9, HU9⟩ : ∃ b : Bool, Hid (b = (decide ((0 : Int) ≤ f3) && decide (f3 ≤ 99))) := ⟨_, rfl⟩
       have HFO : Hid (flOk ns (fat f m) = (u0 && u1 && ((f2.toList == (⟨#[]⟩ : ByteArray).toList) || (u2 && decide (f3 = 0))) && u9)) := by rw [HU0.out, HU1.out, HU2.out, HU9.out, ← HX.out]; rfl
       have HNO : Hid (flOk ns (fat f m) = false → r = false) := fun h => by rw [HR.out]; exact qOk_fl (by rw [← HNS.out, HL.out.2.2]; exact flsOk_no (i := m) hlm h)
       have HYES : Hid (flOk ns (fat f m) = true → flsOk ns f (m + 1) = true) := fun h => by rw [flsOk_succ, HPF.out, h]; rfl
       clear HX HX4 HPF
       have HBE : Hid (Below w.heap.size w W4) := HBW.out.trans ((HB2.out.trans (HB4.out.mono HS1.out)).mono (by have := HB.out; omega))
       go_wp2_with fail
       refine (HIL.out f0 u0 _ HB4.out HU0.out).mono ?_
       rintro e1 w4 ⟨rfl, rfl⟩
       rcases Bool.eq_false_or_eq_true u0 with h | h
       rotate_left
       ·subst h
        have hr : r = false := HNO.out (by rw [HFO.out]; rfl)
        subst hr
        go_wp2
        obtain rfl : FF = Tryz.f6 := HFF.out
        go_ret
        exact ⟨rfl, HBE.out⟩
       subst h
       go_wp2_with fail
       refine (HIN.out _ _ _ u1 _ HU1.out).mono ?_
       rintro e1 w4 ⟨rfl, rfl⟩
       rcases Bool.eq_false_or_eq_true u1 with h | h
       rotate_left
       ·subst h
        have hr : r = false := HNO.out (by rw [HFO.out]; rfl)
        subst hr
        go_wp2
        obtain rfl : FF = Tryz.f6 := HFF.out
        go_ret
        exact ⟨rfl, HBE.out⟩
       subst h
       by_cases he : f2 = ⟨#[]⟩
       ·subst he
        have HE2 : Hid (flOk ns (fat f m) = u9) := by show _ = _; rw [HFO.out]; simp
        go_wp2_with fail
        refine (HIN.out _ _ _ u9 _ HU9.out).mono ?_
        rintro e1 w4 ⟨rfl, rfl⟩
        rcases Bool.eq_false_or_eq_true u9 with h | h
        ·subst h
         go_wp2
         go_roundw
         case rel => exact ⟨m + 1, by go_num, by omega, HYES.out HE2.out, HB4⟩
         case measure => simp [intOf]; omega
        ·subst h
         have hr : r = false := HNO.out HE2.out
         subst hr
         go_wp2
         obtain rfl : FF = Tryz.f6 := HFF.out
         go_ret
         exact ⟨rfl, HBE.out⟩
       ·have he0 : (f2.toList == (⟨#[]⟩ : ByteArray).toList) = false := by rw [toList_eq]; exact decide_eq_false he
        have HE2 : Hid (flOk ns (fat f m) = (u2 && decide (f3 = 0) && u9)) := by show _ = _; rw [HFO.out, he0]; simp
        have he1 : f2.toList.isEmpty = false := by rw [List.isEmpty_eq_false_iff]; intro e; exact he (toList_inj.1 (by rw [e]; decide +kernel))
        clear he0 he
        go_wp2_with fail
        refine (HIL.out f2 u2 _ HB4.out HU2.out).mono ?_
        rintro e1 w4 ⟨rfl, rfl⟩
        rcases Bool.eq_false_or_eq_true u2 with h | h
        ·subst h
         by_cases h0 : f3 = 0
         ·subst h0
          have h9 : u9 = true := by rw [HU9.out]; rfl
          subst h9
          go_wp2_with fail
          refine (HIN.out _ _ _ true _ HU9.out).mono ?_
          rintro e1 w4 ⟨rfl, rfl⟩
          go_wp2
          go_roundw
          case rel => exact ⟨m + 1, by go_num, by omega, HYES.out (by rw [HE2.out]; rfl), HB4⟩
          case measure => simp [intOf]; omega
         ·have hr : r = false := HNO.out (by rw [HE2.out, decide_eq_false h0]; rfl)
          subst hr
          go_wp2
          obtain rfl : FF = Tryz.f6 := HFF.out
          go_ret
          exact ⟨rfl, HBE.out⟩
        ·subst h
         have hr : r = false := HNO.out (by rw [HE2.out]; rfl)
         subst hr
         go_wp2
         obtain rfl : FF = Tryz.f6 := HFF.out
         go_ret
         exact ⟨rfl, HBE.out⟩
      ·obtain rfl : m = n3 := by omega
       have hr : r = decide ((nn : Int) ≤ 4) := by
        rw [HR.out, qOk_end (by rw [HL.out.1, HL.out.2.1, HL.out.2.2]; exact HOKN.out) HATS.out HOUS.out (by rw [← HNS.out, HL.out.2.2]; exact HPF.out), ← HNS.out, HNN.out]
        by_cases h : nn ≤ 4
        ·rw [decide_eq_true h, decide_eq_true (by omega)]
        ·rw [decide_eq_false h, decide_eq_false (by omega)]
       subst hr
       have HBE : Hid (Below w.heap.size w wr) := HBW.out.trans ((HB2.out.trans (HBF.out.mono HS1.out)).mono (by have := HB.out; omega))
       go_wp2
       obtain rfl : FF = Tryz.f6 := HFF.out
       go_ret
       exact ⟨rfl, HBE.out⟩
end Go.Proofs.YtbepmeipjdpipaaGreat
