/-
  The walk of FnBags.
-/
import Derived.Test.YtijbngdafgmpaaaBgM
import Derived.Deep.RegionHeld3
namespace Go.Proofs.Ytijbngdafgmpaaa
open Go.RowKit

set_option maxHeartbeats 16000000 in
set_option maxRecDepth 100000 in
theorem law_3 (a0 : Option Addr) (n0 cap0 : Nat) (w : World) (hc0 : CodeIn w a0 n0) :
    Calls Try.prog 3 #[.slice a0 n0 cap0] w fun e w' => e = .returned (.bool true) ∧ Below w.heap.size w w' := by
  by_cases hbig : (1048576 : Int) < (n0 : Int)
  · go_enter Try.func3, Try.ntmps3
    go_wp2_with fail
    refine (big_yes a0 n0 cap0 w hbig).mono ?_
    rintro e w1 ⟨rfl, rfl⟩
    go_wp2
    go_ret
    exact ⟨rfl, Below.refl _ _⟩
  · have HCD : Hid (CodeIn w a0 n0) := hc0
    clear hc0
    go_enter Try.func3, Try.ntmps3
    go_wp2_with fail
    refine (big_no a0 n0 cap0 w (by omega)).mono ?_
    rintro e w1 ⟨rfl, rfl⟩
    go_wp2_with fail
    refine (drawBags_any a0 n0 cap0 w (by omega) HCD.out).mono ?_
    rintro e w2 ⟨a, na, ca, A, d, nd, cd, Dx, rfl, HR, XA, XD, HB2⟩
    have HDA : Hid (Drn 2 7 A) := HR.out.2.1
    have HNA : Hid (A.length = na) := HR.out.1
    clear HR XD
    have HD3 : Hid (Held w ((w2.alloc (.cells #[.slice a na ca] 26)).alloc (.cells #[.slice d nd cd] 26)) [(w2.heap.size + 1, .slice d nd cd), (w2.heap.size, .slice a na ca)]) := by
      have h0 : Held w w2 [] := ⟨HB2.out, fun x hx => by simp at hx⟩
      have h := (h0.more (.slice a na ca) 26).more (.slice d nd cd) 26
      simp only [World.size_alloc] at h
      exact h
    have XA3 : Hid (BagIn w.heap.size w2.heap.size ((w2.alloc (.cells #[.slice a na ca] 26)).alloc (.cells #[.slice d nd cd] 26)) a A) := XA.out.below (below2 w2 _ _) (Nat.le_refl _)
    have S3 : Hid (w2.heap.size ≤ ((w2.alloc (.cells #[.slice a na ca] 26)).alloc (.cells #[.slice d nd cd] 26)).heap.size) := by show _ ≤ _; simp; omega
    go_wp2_with fail
    refine (drawPlaces_any a0 n0 cap0 _ (by omega) (HCD.out.below (by have := HD3.out.bel; exact this))).mono ?_
    rintro e w4 ⟨g, cg, z0, z1, z2, rfl, HZ, HCE, HB4⟩
    have HD4 : Hid (Held w w4 [(w2.heap.size + 1, .slice d nd cd), (w2.heap.size, .slice a na ca)]) := HD3.out.below HB4.out
    have XA4 : Hid (BagIn w.heap.size w2.heap.size w4 a A) := XA3.out.below HB4.out S3.out
    have S4 : Hid (w2.heap.size + 1 < w4.heap.size) := HD4.out.lt (List.mem_cons_self ..)
    obtain ⟨r0, hr0⟩ : ∃ r, z0.tmod 5 = r := ⟨_, rfl⟩
    obtain ⟨r1, hr1⟩ : ∃ r, z1.tmod 5 = r := ⟨_, rfl⟩
    obtain ⟨t, ht⟩ : ∃ r, z2.tmod 9 = r := ⟨_, rfl⟩
    have hb0 : 0 ≤ r0 ∧ r0 ≤ 4 := by rw [← hr0, Int.tmod_eq_emod_of_nonneg HZ.out.1.1]; omega
    have hb1 : 0 ≤ r1 ∧ r1 ≤ 4 := by rw [← hr1, Int.tmod_eq_emod_of_nonneg HZ.out.2.1.1]; omega
    have hbt : 0 ≤ t ∧ t ≤ 8 := by rw [← ht, Int.tmod_eq_emod_of_nonneg HZ.out.2.2.1]; omega
    obtain ⟨D, hfb⟩ := fb_of (r := [r0, r1]) (t := 1 + t) HDA.out rfl (by intro x hx; simp at hx; rcases hx with rfl | rfl <;> omega) (by omega)
    have HF : Hid (Fb A D [r0, r1] (1 + t)) := hfb
    have e0 := HCE.out.1
    have e1 := HCE.out.2.1
    have e2 := HCE.out.2.2
    clear hfb HD3 XA3 S3 HB4 XA
    go_wp2_with fail
    go_region_held3 (fun w' => w'.cell? ⟨g, 0, none⟩ = some (.int .i64 z0) ∧ w'.cell? ⟨g, 1, none⟩ = some (.int .i64 z1)) (first | exact ⟨e0, e1⟩ | exact ⟨cell_below e0 ((Below.refl _ _).drew.alloc (Nat.le_refl _) _) (lt_of_cell e0), cell_below e1 ((Below.refl _ _).drew.alloc (Nat.le_refl _) _) (lt_of_cell e1)⟩) (fail)
    obtain ⟨w5, HW5⟩ : ∃ w5, Hid (w5 = (w4.alloc (.cells #[.int .i64 r0, .int .i64 r1] 3)).drew) := ⟨_, rfl⟩
    rw [← HW5.out]
    have HB45 : Hid (Below w4.heap.size w4 w5) := by rw [HW5.out]; exact (below1' w4 _).drew
    have HRW5 : Hid (RowIn w4.heap.size w5.heap.size w5 (some ⟨w4.heap.size, 0, none⟩) [r0, r1]) := by rw [HW5.out]; exact row2 w4 _ rfl r0 r1
    have HD5 : Hid (Held w w5 [(w2.heap.size + 1, .slice d nd cd), (w2.heap.size, .slice a na ca)]) := HD4.out.below HB45.out
    have XA5 : Hid (BagIn w.heap.size w2.heap.size w5 a A) := XA4.out.below HB45.out (by have := S4.out; omega)
    have S5 : Hid (w2.heap.size + 1 < w4.heap.size ∧ w4.heap.size < w5.heap.size ∧ w.heap.size ≤ w2.heap.size) := ⟨S4.out, by rw [HW5.out]; show _ < (w4.alloc _).heap.size; simp, HB2.out.size⟩
    have g2 : w5.cell? ⟨g, 2, none⟩ = some (.int .i64 z2) := cell_below e2 HB45.out (lt_of_cell e2)
    have a5 := HD5.out.cell (b := w2.heap.size) (v := .slice a na ca) (by simp)
    have hwt : IntKind.i64.wrap (1 + t) = 1 + t := by simp [IntKind.wrap, IntKind.bits, IntKind.signed]; omega
    clear e0 e1 e2 HD4 XA4 HCE
    go_wp2_with fail
    refine (bagAdd_any w.heap.size w2.heap.size w4.heap.size w5.heap.size a (some ⟨w4.heap.size, 0, none⟩) na ca 2 2 A [r0, r1] (1 + t) w5 XA5.out HRW5.out (by have := S5.out; omega) (Nat.le_refl _) HNA.out rfl (good_b' HF.out.ga HNA.out).1 (by omega) (good_b' HF.out.ga HNA.out).2).mono ?_
    rintro e w6 ⟨b, nb, cb, ok, rfl, HOK, HNB, XB6, HB6⟩
    obtain rfl : ok = true := by rw [HOK.out]; exact HF.out.ok
    rw [HF.out.add] at HNB XB6
    obtain ⟨w7, HW7⟩ : ∃ w7, Hid (w7 = w6.alloc (.cells #[.slice b nb cb] 26)) := ⟨_, rfl⟩
    have B57 : Hid (Below w5.heap.size w5 w7) := by rw [HW7.out]; exact HB6.out.alloc HB6.out.size _
    have HD7 : Hid (Held w w7 [(w6.heap.size, .slice b nb cb), (w2.heap.size + 1, .slice d nd cd), (w2.heap.size, .slice a na ca)]) := by rw [HW7.out]; exact (HD5.out.below HB6.out).more _ _
    have XA7 : Hid (BagIn w.heap.size w2.heap.size w7 a A) := XA5.out.below B57.out (by have := S5.out; omega)
    have HRW7 : Hid (RowIn w4.heap.size w5.heap.size w7 (some ⟨w4.heap.size, 0, none⟩) [r0, r1]) := HRW5.out.below B57.out (Nat.le_refl _)
    have XB7 : Hid (BagIn w5.heap.size w6.heap.size w7 b D) := by rw [HW7.out]; exact XB6.out.toIn.below (below1' w6 _) (Nat.le_refl _)
    have S7 : Hid (w2.heap.size + 1 < w4.heap.size ∧ w4.heap.size < w5.heap.size ∧ w.heap.size ≤ w2.heap.size ∧ w5.heap.size ≤ w6.heap.size ∧ w6.heap.size < w7.heap.size) := ⟨S5.out.1, S5.out.2.1, S5.out.2.2, HB6.out.size, by rw [HW7.out]; simp⟩
    clear g2 a5 XA5 HRW5 HD5 XB6 HB6 S5 S4 HOK
    go_wp2_with fail
    rw [← HW7.out]
    have hna : na ≤ 1048576 := (good_b' HF.out.ga HNA.out).1
    have hnb : nb ≤ 1048576 := (good_b' HF.out.gd HNB.out).1
    go_loopw [10] (fun i wr => ∃ k : Nat, i = .int .i64 k ∧ k ≤ na ∧ Hid (Below w7.heap.size w7 wr)) (fun i _ => na - (intOf i).toNat)
    case atStart => exact ⟨0, rfl, by omega, Below.refl _ _⟩
    case round =>
      obtain ⟨k, rfl, hk, HL⟩ := hrel
      have HDR : Hid (Held w wr [(w6.heap.size, .slice b nb cb), (w2.heap.size + 1, .slice d nd cd), (w2.heap.size, .slice a na ca)]) := HD7.out.below HL.out
      have qa := HDR.out.cell (b := w2.heap.size) (v := .slice a na ca) (by simp)
      have qb := HDR.out.cell (b := w6.heap.size) (v := .slice b nb cb) (by simp)
      by_cases hlt : k < na
      · have hlt1 : (k : Int) < (na : Int) := by omega
        have hsz := HL.out.size
        have s7 := S7.out
        have HXA : Hid (BagIn w.heap.size w2.heap.size wr a A) := XA7.out.below HL.out (by omega)
        have HXB : Hid (BagIn w5.heap.size w6.heap.size wr b D) := XB7.out.below HL.out (by omega)
        have HRW : Hid (RowIn w4.heap.size w5.heap.size wr (some ⟨w4.heap.size, 0, none⟩) [r0, r1]) := HRW7.out.below HL.out (by omega)
        obtain ⟨bb, o, rfl, _, hbh, xa, xc, hc1, hrow, hc2⟩ := HXA.out.item (k := k) (by rw [HNA.out]; exact hlt)
        obtain ⟨xr, HXR⟩ : ∃ xr, Hid (xr = (at' A k).1) := ⟨_, rfl⟩
        obtain ⟨y, HY⟩ : ∃ y, Hid (y = (at' A k).2) := ⟨_, rfl⟩
        obtain ⟨xq, HXQ⟩ : ∃ xq, Hid (xr.length = xq) := ⟨_, rfl⟩
        change wr.cell? _ = some (.slice xa (at' A k).1.length xc) at hc1
        change wr.cell? _ = some (.int .i64 (at' A k).2) at hc2
        change RowIn _ _ wr xa (at' A k).1 at hrow
        rw [← HXR.out, HXQ.out] at hc1
        rw [← HY.out] at hc2
        rw [← HXR.out] at hrow
        have HROW : Hid (RowIn w.heap.size w2.heap.size wr xa xr) := hrow
        have hxq : xq ≤ 1048576 := by rw [← HXQ.out, HXR.out]; exact (good_b' HF.out.ga HNA.out).2 k hlt
        obtain ⟨s, HS⟩ : ∃ s : Bool, Hid (s = decide (xr = [r0, r1])) := ⟨_, rfl⟩
        have HKC : Hid (∀ w', Below wr.heap.size wr w' → (w'.cell? ⟨w2.heap.size, 0, none⟩ = some (.slice (some ⟨bb, o, none⟩) na ca) ∧ w'.cell? ⟨w6.heap.size, 0, none⟩ = some (.slice b nb cb) ∧ w'.cell? ⟨bb, o + k * 2, none⟩ = some (.slice xa xq xc) ∧ w'.cell? ⟨bb, o + k * 2 + 1, none⟩ = some (.int .i64 y))) := fun w' hb' =>
          ⟨cell_below qa hb' (lt_of_cell qa), cell_below qb hb' (lt_of_cell qb), cell_below hc1 hb' (lt_of_cell hc1), cell_below hc2 hb' (lt_of_cell hc2)⟩
        have HC1 : Hid (∀ w0, Below wr.heap.size wr w0 → Calls Try.prog 20 #[.slice xa xq xc, .slice (some ⟨w4.heap.size, 0, none⟩) 2 2] w0 fun e w' => e = .returned (.bool s) ∧ Hid (Below wr.heap.size wr w') ∧ (w'.cell? ⟨w2.heap.size, 0, none⟩ = some (.slice (some ⟨bb, o, none⟩) na ca) ∧ w'.cell? ⟨w6.heap.size, 0, none⟩ = some (.slice b nb cb) ∧ w'.cell? ⟨bb, o + k * 2, none⟩ = some (.slice xa xq xc) ∧ w'.cell? ⟨bb, o + k * 2 + 1, none⟩ = some (.int .i64 y))) := by
          intro w0 h
          have h0 := h.size
          refine (sameInts_any _ _ _ _ xa (some ⟨w4.heap.size, 0, none⟩) xq 2 xc 2 xr [r0, r1] s w0 (HROW.out.below h (by omega)) (HRW.out.below h (by omega)) HXQ.out rfl hxq HS.out).mono ?_
          rintro e w' ⟨h1, h2⟩
          have hb' : Below wr.heap.size wr w' := h.trans (h2.mono h0)
          exact ⟨h1, hb', HKC.out w' hb'⟩
        have HC2 : Hid (s = false → ∀ w0, Below wr.heap.size wr w0 → Calls Try.prog 21 #[.agg #[.slice b nb cb], .slice xa xq xc] w0 fun e w' => e = .returned (.int .i64 y) ∧ Hid (Below wr.heap.size wr w') ∧ (w'.cell? ⟨w2.heap.size, 0, none⟩ = some (.slice (some ⟨bb, o, none⟩) na ca) ∧ w'.cell? ⟨w6.heap.size, 0, none⟩ = some (.slice b nb cb) ∧ w'.cell? ⟨bb, o + k * 2, none⟩ = some (.slice xa xq xc) ∧ w'.cell? ⟨bb, o + k * 2 + 1, none⟩ = some (.int .i64 y))) := by
          intro hs w0 h
          have h0 := h.size
          have hx : at' A k ∈ A := by rw [at_get (by rw [HNA.out]; exact hlt)]; exact List.getElem_mem _
          have hne : (at' A k).1 ≠ [r0, r1] := by rw [← HXR.out]; have := HS.out; rw [hs] at this; simpa using this
          refine (bagTimes_any _ _ _ _ b xa nb cb xq xc D xr y w0 (HXB.out.below h (by omega)) (HROW.out.below h (by omega)) (by omega) (by omega) HNB.out HXQ.out (good_b' HF.out.gd HNB.out).1 (good_b' HF.out.gd HNB.out).2 (by rw [HXR.out, HF.out.other _ hx hne, HY.out])).mono ?_
          rintro e w' ⟨h1, h2⟩
          have hb' : Below wr.heap.size wr w' := h.trans (h2.mono h0)
          exact ⟨h1, hb', HKC.out w' hb'⟩
        clear hrow hbh
        rcases Bool.eq_false_or_eq_true s with hs | hs
        · subst hs
          go_wp2_with fail
          refine wp_region_held_drew (S := fun w' => w'.cell? ⟨w2.heap.size, 0, none⟩ = some (.slice (some ⟨bb, o, none⟩) na ca) ∧ w'.cell? ⟨w6.heap.size, 0, none⟩ = some (.slice b nb cb) ∧ w'.cell? ⟨bb, o + k * 2, none⟩ = some (.slice xa xq xc) ∧ w'.cell? ⟨bb, o + k * 2 + 1, none⟩ = some (.int .i64 y)) (by kernel_rfl) ⟨qa, qb, hc1, hc2⟩ (fun hHeld => ?_)
          refine wpAnyH_take (i := 0) (oi := { dst := some 49, op := Op.fieldAddr 26 (Operand.tmp 3) 0, type := 0, pos := "laws.go:268", after := #[], guard := none }) (v := ?_) rfl (by kernel_rfl) (by kernel_rfl) (by kernel_rfl) (fun _ _ _ h => h) (Or.inl ⟨by rfl, ?_⟩) (by assumption) ?_
          rotate_left
          · intro w hSw; (try dsimp only at hSw); go_simp; try with_reducible rfl
          simp only [Act.put, List.setIfInBounds_toArray, List.set_cons_zero, List.set_cons_succ]
          refine wpAnyH_take (i := 1) (oi := { dst := some 50, op := Op.load 24 (Operand.tmp 49), type := 24, pos := "laws.go:268", after := #[{ on := 0, ground := Ground.data }], guard := none }) (v := ?_) rfl (by kernel_rfl) (by kernel_rfl) (by kernel_rfl) (fun _ _ _ h => h) (Or.inl ⟨by rfl, ?_⟩) (by assumption) ?_
          rotate_left
          · intro w hSw; (try dsimp only at hSw); go_simp; try with_reducible rfl
          simp only [Act.put, List.setIfInBounds_toArray, List.set_cons_zero, List.set_cons_succ]
          refine wpAnyH_take (i := 2) (oi := { dst := some 51, op := Op.move (Operand.tmp 10), type := 3, pos := "laws.go:268", after := #[], guard := none }) (v := ?_) rfl (by kernel_rfl) (by kernel_rfl) (by kernel_rfl) (fun _ _ _ h => h) (Or.inl ⟨by rfl, ?_⟩) (by assumption) ?_
          rotate_left
          · intro w hSw; (try dsimp only at hSw); go_simp; try with_reducible rfl
          simp only [Act.put, List.setIfInBounds_toArray, List.set_cons_zero, List.set_cons_succ]
          refine wpAnyH_take (i := 3) (oi := { dst := some 52, op := Op.indexAddr 24 (Operand.tmp 50) (Operand.tmp 51), type := 0, pos := "laws.go:268", after := #[{ on := 1, ground := Ground.data }, { on := 2, ground := Ground.data }], guard := none }) (v := ?_) rfl (by kernel_rfl) (by kernel_rfl) (by kernel_rfl) (fun _ _ _ h => h) (Or.inl ⟨by rfl, ?_⟩) (by assumption) ?_
          rotate_left
          · intro w hSw; (try dsimp only at hSw); go_simp; try with_reducible rfl
          simp only [Act.put, List.setIfInBounds_toArray, List.set_cons_zero, List.set_cons_succ]
          refine wpAnyH_take (i := 4) (oi := { dst := some 53, op := Op.fieldAddr 35 (Operand.tmp 52) 0, type := 0, pos := "laws.go:268", after := #[{ on := 3, ground := Ground.data }], guard := none }) (v := ?_) rfl (by kernel_rfl) (by kernel_rfl) (by kernel_rfl) (fun _ _ _ h => h) (Or.inl ⟨by rfl, ?_⟩) (by assumption) ?_
          rotate_left
          · intro w hSw; (try dsimp only at hSw); go_simp; try with_reducible rfl
          simp only [Act.put, List.setIfInBounds_toArray, List.set_cons_zero, List.set_cons_succ]
          refine wpAnyH_take (i := 5) (oi := { dst := some 54, op := Op.load 29 (Operand.tmp 53), type := 29, pos := "laws.go:268", after := #[{ on := 4, ground := Ground.data }], guard := none }) (v := ?_) rfl (by kernel_rfl) (by kernel_rfl) (by kernel_rfl) (fun _ _ _ h => h) (Or.inl ⟨by rfl, ?_⟩) (by assumption) ?_
          rotate_left
          · intro w hSw; (try dsimp only at hSw); go_simp; try with_reducible rfl
          simp only [Act.put, List.setIfInBounds_toArray, List.set_cons_zero, List.set_cons_succ]
          refine wpAnyH_take (i := 6) (oi := { dst := some 55, op := Op.move (Operand.tmp 6), type := 29, pos := "laws.go:268", after := #[], guard := none }) (v := ?_) rfl (by kernel_rfl) (by kernel_rfl) (by kernel_rfl) (fun _ _ _ h => h) (Or.inl ⟨by rfl, ?_⟩) (by assumption) ?_
          rotate_left
          · intro w hSw; (try dsimp only at hSw); go_simp; try with_reducible rfl
          simp only [Act.put, List.setIfInBounds_toArray, List.set_cons_zero, List.set_cons_succ]
          refine wpAnyH_ready (rs := [7]) (by kernel_rfl) (by simp) ?_
          refine AllReadyH.cons rfl (fun K hK => ?_) ?_
          · go_simp
            go_wp2_with (go_at_call 20; refine (HC1.out _ ((Below.refl _ _).drew)).mono ?_; rintro e w8 ⟨rfl, B8, hk8⟩)
            refine hK.out _ _ hk8 (fun hHeld => ?_)
            clear hK K
            refine wpAnyH_take (i := 8) (oi := { dst := some 57, op := Op.unOp UnOp.not 4 (Operand.tmp 56), type := 4, pos := "laws.go:268", after := #[{ on := 7, ground := Ground.data }], guard := none }) (v := ?_) rfl (by kernel_rfl) (by kernel_rfl) (by kernel_rfl) (fun _ _ _ h => h) (Or.inl ⟨by rfl, ?_⟩) (by assumption) ?_
            rotate_left
            · intro w hSw; (try dsimp only at hSw); go_simp; try with_reducible rfl
            simp only [Act.put, List.setIfInBounds_toArray, List.set_cons_zero, List.set_cons_succ]
            refine wpAnyH_take (i := 9) (oi := { dst := some 58, op := Op.move (Operand.tmp 57), type := 4, pos := "laws.go:268", after := #[{ on := 8, ground := Ground.data }, { on := 7, ground := Ground.chain }], guard := none }) (v := ?_) rfl (by kernel_rfl) (by kernel_rfl) (by kernel_rfl) (fun _ _ _ h => h) (Or.inl ⟨by rfl, ?_⟩) (by assumption) ?_
            rotate_left
            · intro w hSw; (try dsimp only at hSw); go_simp; try with_reducible rfl
            simp only [Act.put, List.setIfInBounds_toArray, List.set_cons_zero, List.set_cons_succ]
            refine wpAnyH_take (i := 10) (oi := { dst := some 59, op := Op.load 26 (Operand.tmp 8), type := 26, pos := "laws.go:268", after := #[{ on := 9, ground := Ground.guard }], guard := some (9, true) }) (v := undef) rfl (by kernel_rfl) (by kernel_rfl) (by kernel_rfl) (fun _ _ _ h => h) (Or.inr ⟨by kernel_rfl, rfl⟩) (by assumption) ?_
            simp only [Act.put, List.setIfInBounds_toArray, List.set_cons_zero, List.set_cons_succ]
            refine wpAnyH_take (i := 11) (oi := { dst := some 60, op := Op.fieldAddr 26 (Operand.tmp 3) 0, type := 0, pos := "laws.go:268", after := #[{ on := 9, ground := Ground.guard }], guard := some (9, true) }) (v := undef) rfl (by kernel_rfl) (by kernel_rfl) (by kernel_rfl) (fun _ _ _ h => h) (Or.inr ⟨by kernel_rfl, rfl⟩) (by assumption) ?_
            simp only [Act.put, List.setIfInBounds_toArray, List.set_cons_zero, List.set_cons_succ]
            refine wpAnyH_take (i := 12) (oi := { dst := some 61, op := Op.load 24 (Operand.tmp 60), type := 24, pos := "laws.go:268", after := #[{ on := 11, ground := Ground.data }, { on := 9, ground := Ground.guard }], guard := some (9, true) }) (v := undef) rfl (by kernel_rfl) (by kernel_rfl) (by kernel_rfl) (fun _ _ _ h => h) (Or.inr ⟨by kernel_rfl, rfl⟩) (by assumption) ?_
            simp only [Act.put, List.setIfInBounds_toArray, List.set_cons_zero, List.set_cons_succ]
            refine wpAnyH_take (i := 13) (oi := { dst := some 62, op := Op.move (Operand.tmp 10), type := 3, pos := "laws.go:268", after := #[{ on := 9, ground := Ground.guard }], guard := some (9, true) }) (v := undef) rfl (by kernel_rfl) (by kernel_rfl) (by kernel_rfl) (fun _ _ _ h => h) (Or.inr ⟨by kernel_rfl, rfl⟩) (by assumption) ?_
            simp only [Act.put, List.setIfInBounds_toArray, List.set_cons_zero, List.set_cons_succ]
            refine wpAnyH_take (i := 14) (oi := { dst := some 63, op := Op.indexAddr 24 (Operand.tmp 61) (Operand.tmp 62), type := 0, pos := "laws.go:268", after := #[{ on := 12, ground := Ground.data }, { on := 13, ground := Ground.data }, { on := 9, ground := Ground.guard }], guard := some (9, true) }) (v := undef) rfl (by kernel_rfl) (by kernel_rfl) (by kernel_rfl) (fun _ _ _ h => h) (Or.inr ⟨by kernel_rfl, rfl⟩) (by assumption) ?_
            simp only [Act.put, List.setIfInBounds_toArray, List.set_cons_zero, List.set_cons_succ]
            refine wpAnyH_take (i := 15) (oi := { dst := some 64, op := Op.fieldAddr 35 (Operand.tmp 63) 0, type := 0, pos := "laws.go:268", after := #[{ on := 14, ground := Ground.data }, { on := 9, ground := Ground.guard }], guard := some (9, true) }) (v := undef) rfl (by kernel_rfl) (by kernel_rfl) (by kernel_rfl) (fun _ _ _ h => h) (Or.inr ⟨by kernel_rfl, rfl⟩) (by assumption) ?_
            simp only [Act.put, List.setIfInBounds_toArray, List.set_cons_zero, List.set_cons_succ]
            refine wpAnyH_take (i := 16) (oi := { dst := some 65, op := Op.load 29 (Operand.tmp 64), type := 29, pos := "laws.go:268", after := #[{ on := 15, ground := Ground.data }, { on := 9, ground := Ground.guard }], guard := some (9, true) }) (v := undef) rfl (by kernel_rfl) (by kernel_rfl) (by kernel_rfl) (fun _ _ _ h => h) (Or.inr ⟨by kernel_rfl, rfl⟩) (by assumption) ?_
            simp only [Act.put, List.setIfInBounds_toArray, List.set_cons_zero, List.set_cons_succ]
            refine wpAnyH_take (i := 18) (oi := { dst := some 67, op := Op.fieldAddr 26 (Operand.tmp 3) 0, type := 0, pos := "laws.go:268", after := #[{ on := 9, ground := Ground.guard }], guard := some (9, true) }) (v := undef) rfl (by kernel_rfl) (by kernel_rfl) (by kernel_rfl) (fun _ _ _ h => h) (Or.inr ⟨by kernel_rfl, rfl⟩) (by assumption) ?_
            simp only [Act.put, List.setIfInBounds_toArray, List.set_cons_zero, List.set_cons_succ]
            refine wpAnyH_take (i := 19) (oi := { dst := some 68, op := Op.load 24 (Operand.tmp 67), type := 24, pos := "laws.go:268", after := #[{ on := 18, ground := Ground.data }, { on := 9, ground := Ground.guard }], guard := some (9, true) }) (v := undef) rfl (by kernel_rfl) (by kernel_rfl) (by kernel_rfl) (fun _ _ _ h => h) (Or.inr ⟨by kernel_rfl, rfl⟩) (by assumption) ?_
            simp only [Act.put, List.setIfInBounds_toArray, List.set_cons_zero, List.set_cons_succ]
            refine wpAnyH_take (i := 20) (oi := { dst := some 69, op := Op.move (Operand.tmp 10), type := 3, pos := "laws.go:268", after := #[{ on := 9, ground := Ground.guard }], guard := some (9, true) }) (v := undef) rfl (by kernel_rfl) (by kernel_rfl) (by kernel_rfl) (fun _ _ _ h => h) (Or.inr ⟨by kernel_rfl, rfl⟩) (by assumption) ?_
            simp only [Act.put, List.setIfInBounds_toArray, List.set_cons_zero, List.set_cons_succ]
            refine wpAnyH_take (i := 21) (oi := { dst := some 70, op := Op.indexAddr 24 (Operand.tmp 68) (Operand.tmp 69), type := 0, pos := "laws.go:268", after := #[{ on := 19, ground := Ground.data }, { on := 20, ground := Ground.data }, { on := 9, ground := Ground.guard }], guard := some (9, true) }) (v := undef) rfl (by kernel_rfl) (by kernel_rfl) (by kernel_rfl) (fun _ _ _ h => h) (Or.inr ⟨by kernel_rfl, rfl⟩) (by assumption) ?_
            simp only [Act.put, List.setIfInBounds_toArray, List.set_cons_zero, List.set_cons_succ]
            refine wpAnyH_take (i := 22) (oi := { dst := some 71, op := Op.fieldAddr 35 (Operand.tmp 70) 1, type := 0, pos := "laws.go:268", after := #[{ on := 21, ground := Ground.data }, { on := 9, ground := Ground.guard }], guard := some (9, true) }) (v := undef) rfl (by kernel_rfl) (by kernel_rfl) (by kernel_rfl) (fun _ _ _ h => h) (Or.inr ⟨by kernel_rfl, rfl⟩) (by assumption) ?_
            simp only [Act.put, List.setIfInBounds_toArray, List.set_cons_zero, List.set_cons_succ]
            refine wpAnyH_take (i := 23) (oi := { dst := some 72, op := Op.load 3 (Operand.tmp 71), type := 3, pos := "laws.go:268", after := #[{ on := 22, ground := Ground.data }, { on := 9, ground := Ground.guard }], guard := some (9, true) }) (v := undef) rfl (by kernel_rfl) (by kernel_rfl) (by kernel_rfl) (fun _ _ _ h => h) (Or.inr ⟨by kernel_rfl, rfl⟩) (by assumption) ?_
            simp only [Act.put, List.setIfInBounds_toArray, List.set_cons_zero, List.set_cons_succ]
            refine wpAnyH_ready (rs := [17]) (by kernel_rfl) (by simp) ?_
            refine AllReadyH.cons (o := { dst := some 66, op := Op.call { callee := Callee.value (Operand.func 21), args := #[Operand.tmp 59, Operand.tmp 65], argTypes := #[26, 29] }, type := 3, pos := "laws.go:268", after := #[{ on := 10, ground := Ground.data }, { on := 16, ground := Ground.data }, { on := 9, ground := Ground.chain }, { on := 9, ground := Ground.guard }], guard := some (9, true) }) rfl (fun K hK => ?_) ?_
            · rw [if_neg (by refine Bool.eq_false_iff.1 ?_; kernel_rfl)]
              refine hK.out _ _ hk8 (fun hHeld => ?_)
              clear hK K
              simp only [Act.put, List.setIfInBounds_toArray, List.set_cons_zero, List.set_cons_succ]
              refine wpAnyH_take (i := 24) (oi := { dst := some 73, op := Op.binOp BinOp.neq 3 (Operand.tmp 66) (Operand.tmp 72) 3, type := 4, pos := "laws.go:268", after := #[{ on := 17, ground := Ground.data }, { on := 23, ground := Ground.data }, { on := 9, ground := Ground.guard }], guard := some (9, true) }) (v := undef) rfl (by kernel_rfl) (by kernel_rfl) (by kernel_rfl) (fun _ _ _ h => h) (Or.inr ⟨by kernel_rfl, rfl⟩) (by assumption) ?_
              simp only [Act.put, List.setIfInBounds_toArray, List.set_cons_zero, List.set_cons_succ]
              refine wpAnyH_take (i := 25) (oi := { dst := some 74, op := Op.pick (Operand.tmp 58) (Operand.tmp 73) (Operand.const (Value.bool false)), type := 4, pos := "laws.go:268", after := #[{ on := 9, ground := Ground.data }, { on := 24, ground := Ground.data }], guard := none }) (v := ?_) rfl (by kernel_rfl) (by kernel_rfl) (by kernel_rfl) (fun _ _ _ h => h) (Or.inl ⟨by kernel_rfl, ?_⟩) (by assumption) ?_
              rotate_left
              · intro w hSw; (try dsimp only at hSw); go_simp; try with_reducible rfl
              simp only [Act.put, List.setIfInBounds_toArray, List.set_cons_zero, List.set_cons_succ]
              refine wpAnyH_done (by kernel_rfl) ?_ _
              go_wp2
              go_roundw
              case rel => exact ⟨k + 1, by go_num, by omega, HL.out.trans (B8.out.mono HL.out.size)⟩
              case measure => simp [intOf]; omega
            exact AllReadyH.nil
          exact AllReadyH.nil
        · subst hs
          go_wp2_with fail
          go_region_held3 (fun w' => w'.cell? ⟨w2.heap.size, 0, none⟩ = some (.slice (some ⟨bb, o, none⟩) na ca) ∧ w'.cell? ⟨w6.heap.size, 0, none⟩ = some (.slice b nb cb) ∧ w'.cell? ⟨bb, o + k * 2, none⟩ = some (.slice xa xq xc) ∧ w'.cell? ⟨bb, o + k * 2 + 1, none⟩ = some (.int .i64 y)) (first | exact ⟨qa, qb, hc1, hc2⟩ | exact hk8) (first | (go_at_call 20; refine (HC1.out _ ((Below.refl _ _).drew)).mono ?_; rintro e w8 ⟨rfl, B8, hk8⟩) | (go_at_call 21; refine (HC2.out (by first | rfl | trivial) _ B8.out).mono ?_; rintro e w8 ⟨rfl, B8, hk8⟩))
          go_wp2
          go_roundw
          case rel => exact ⟨k + 1, by go_num, by omega, HL.out.trans (B8.out.mono HL.out.size)⟩
          case measure => simp [intOf]; omega
      · have hge : ¬ (k : Int) < (na : Int) := by omega
        go_wp2
        clear qa qb HDR
        clear hge hk
        go_loopw [11] (fun i wq => ∃ k : Nat, i = .int .i64 k ∧ 1 ≤ k ∧ (k = 1 ∨ k ≤ nb) ∧ Hid (Below w7.heap.size w7 wq)) (fun i _ => nb + 1 - (intOf i).toNat)
        case atStart => exact ⟨1, rfl, Nat.le_refl _, .inl rfl, HL⟩
        case round =>
          obtain ⟨k1, rfl, hk1, hk2, HL2⟩ := hrel
          obtain ⟨m, rfl⟩ : ∃ m, k1 = m + 1 := ⟨k1 - 1, by omega⟩
          have HDQ : Hid (Held w wr [(w6.heap.size, .slice b nb cb), (w2.heap.size + 1, .slice d nd cd), (w2.heap.size, .slice a na ca)]) := HD7.out.below HL2.out
          have s7 := S7.out
          have hsz := HL2.out.size
          have HXB : Hid (BagIn w5.heap.size w6.heap.size wr b D) := XB7.out.below HL2.out (by omega)
          have qa := HDQ.out.cell (b := w2.heap.size) (v := .slice a na ca) (by simp)
          have qb := HDQ.out.cell (b := w6.heap.size) (v := .slice b nb cb) (by simp)
          by_cases hlt : m + 1 < nb
          · have hlt1 : ((m + 1 : Nat) : Int) < (nb : Int) := by omega
            have hlt2 : (m : Int) < (nb : Int) := by omega
            have hlt3 : (m : Int) + 1 < (nb : Int) := by omega
            have hp0 : (0 : Int) ≤ (m : Int) := by omega
            have hp1 : (0 : Int) ≤ (m : Int) + 1 := by omega
            have hwm0 : IntKind.i64.wrap (m : Int) = (m : Int) := by simp [IntKind.wrap, IntKind.bits, IntKind.signed]; omega
            have hwm1 : IntKind.i64.wrap ((m : Int) + 1 - 1) = (m : Int) := by simp [IntKind.wrap, IntKind.bits, IntKind.signed]; omega
            have htn : ((m : Int) + 1).toNat = m + 1 := by omega
            obtain ⟨bb, o, rfl, _, _, xa, xc, hc1, hrow, _⟩ := HXB.out.item (k := m) (by rw [HNB.out]; omega)
            obtain ⟨b2, o2, e2, _, _, ya, yc, hd1, hrow2, _⟩ := HXB.out.item (k := m + 1) (by rw [HNB.out]; exact hlt)
            simp only [Option.some.injEq, Addr.mk.injEq, and_true] at e2
            obtain ⟨rfl, rfl⟩ := e2
            obtain ⟨xr, HXR⟩ : ∃ xr, Hid (xr = (at' D m).1) := ⟨_, rfl⟩
            obtain ⟨yr, HYR⟩ : ∃ yr, Hid (yr = (at' D (m + 1)).1) := ⟨_, rfl⟩
            obtain ⟨xq, HXQ⟩ : ∃ xq, Hid (xr.length = xq) := ⟨_, rfl⟩
            obtain ⟨yq, HYQ⟩ : ∃ yq, Hid (yr.length = yq) := ⟨_, rfl⟩
            change wr.cell? _ = some (.slice xa (at' D m).1.length xc) at hc1
            change wr.cell? _ = some (.slice ya (at' D (m + 1)).1.length yc) at hd1
            change RowIn _ _ wr xa (at' D m).1 at hrow
            change RowIn _ _ wr ya (at' D (m + 1)).1 at hrow2
            rw [← HXR.out, HXQ.out] at hc1
            rw [← HYR.out, HYQ.out] at hd1
            rw [← HXR.out] at hrow
            rw [← HYR.out] at hrow2
            have HROW : Hid (RowIn w5.heap.size w6.heap.size wr xa xr) := hrow
            have HROW2 : Hid (RowIn w5.heap.size w6.heap.size wr ya yr) := hrow2
            have hxq : xq ≤ 1048576 := by rw [← HXQ.out, HXR.out]; exact (good_b' HF.out.gd HNB.out).2 m (by omega)
            have hyq : yq ≤ 1048576 := by rw [← HYQ.out, HYR.out]; exact (good_b' HF.out.gd HNB.out).2 (m + 1) hlt
            have HLT : Hid (rowLt xr yr = true) := by show _ = _; rw [HXR.out, HYR.out]; exact srt_at.1 HF.out.gd.srt m (m + 1) (by omega) (by rw [HNB.out]; exact hlt)
            have HKC : Hid (∀ w', Below wr.heap.size wr w' → (w'.cell? ⟨w6.heap.size, 0, none⟩ = some (.slice (some ⟨bb, o, none⟩) nb cb) ∧ w'.cell? ⟨bb, o + m * 2, none⟩ = some (.slice xa xq xc) ∧ w'.cell? ⟨bb, o + (m + 1) * 2, none⟩ = some (.slice ya yq yc))) := fun w' hb' =>
              ⟨cell_below qb hb' (lt_of_cell qb), cell_below hc1 hb' (lt_of_cell hc1), cell_below hd1 hb' (lt_of_cell hd1)⟩
            have HC1 : Hid (∀ w0, Below wr.heap.size wr w0 → Calls Try.prog 22 #[.slice xa xq xc, .slice ya yq yc] w0 fun e w' => e = .returned (.bool true) ∧ Hid (Below wr.heap.size wr w') ∧ (w'.cell? ⟨w6.heap.size, 0, none⟩ = some (.slice (some ⟨bb, o, none⟩) nb cb) ∧ w'.cell? ⟨bb, o + m * 2, none⟩ = some (.slice xa xq xc) ∧ w'.cell? ⟨bb, o + (m + 1) * 2, none⟩ = some (.slice ya yq yc))) := by
              intro w0 h
              refine (rowLess_any _ _ _ _ xa ya xq yq xc yc xr yr w0 (HROW.out.below h (by omega)) (HROW2.out.below h (by omega)) HXQ.out HYQ.out hxq hyq).mono ?_
              rintro e w' ⟨rfl, rfl⟩
              exact ⟨by rw [HLT.out], h, HKC.out _ h⟩
            clear hrow hrow2 HDQ qa
            go_wp2_with fail
            go_region_held3 (fun w' => w'.cell? ⟨w6.heap.size, 0, none⟩ = some (.slice (some ⟨bb, o, none⟩) nb cb) ∧ w'.cell? ⟨bb, o + m * 2, none⟩ = some (.slice xa xq xc) ∧ w'.cell? ⟨bb, o + (m + 1) * 2, none⟩ = some (.slice ya yq yc)) (first | exact ⟨qb, hc1, hd1⟩ | exact hk8) (first | (go_at_call 22; refine (HC1.out _ ((Below.refl _ _).drew)).mono ?_; rintro e w8 ⟨rfl, B8, hk8⟩))
            go_wp2
            go_roundw
            case rel => exact ⟨m + 1 + 1, by go_num, by omega, .inr (by omega), HL2.out.trans (B8.out.mono HL2.out.size)⟩
            case measure => simp [intOf]; omega
          · have hge : ¬ ((m + 1 : Nat) : Int) < (nb : Int) := by omega
            have HXA : Hid (BagIn w.heap.size w2.heap.size wr a A) := XA7.out.below HL2.out (by omega)
            have HRW : Hid (RowIn w4.heap.size w5.heap.size wr (some ⟨w4.heap.size, 0, none⟩) [r0, r1]) := HRW7.out.below HL2.out (by omega)
            obtain ⟨sA, HSA⟩ : ∃ s, Hid (s = sizeOfBag A) := ⟨_, rfl⟩
            obtain ⟨tA, HTA⟩ : ∃ s, Hid (s = timesOf A [r0, r1]) := ⟨_, rfl⟩
            have hsa : 0 ≤ sA ∧ sA ≤ 21 := by rw [HSA.out]; exact HF.out.sb
            have hta : 0 ≤ tA ∧ tA ≤ 21 := by rw [HTA.out]; exact HF.out.tb
            have hw1 : IntKind.i64.wrap (sA + (1 + t)) = sA + (1 + t) := by simp [IntKind.wrap, IntKind.bits, IntKind.signed]; omega
            have hw2 : IntKind.i64.wrap (tA + (1 + t)) = tA + (1 + t) := by simp [IntKind.wrap, IntKind.bits, IntKind.signed]; omega
            have HKC : Hid (∀ w', Below wr.heap.size wr w' → (w'.cell? ⟨w2.heap.size, 0, none⟩ = some (.slice a na ca) ∧ w'.cell? ⟨w6.heap.size, 0, none⟩ = some (.slice b nb cb))) := fun w' hb' => ⟨cell_below qa hb' (lt_of_cell qa), cell_below qb hb' (lt_of_cell qb)⟩
            have HC1 : Hid (∀ w0, Below wr.heap.size wr w0 → Calls Try.prog 23 #[.agg #[.slice b nb cb]] w0 fun e w' => e = .returned (.bool true) ∧ Hid (Below wr.heap.size wr w') ∧ (w'.cell? ⟨w2.heap.size, 0, none⟩ = some (.slice a na ca) ∧ w'.cell? ⟨w6.heap.size, 0, none⟩ = some (.slice b nb cb))) := by
              intro w0 h
              have h0 := h.size
              refine (bagOk_any _ _ b nb cb D true w0 (HXB.out.below h (by omega)) (by omega) HNB.out (good_b' HF.out.gd HNB.out).1 (good_b' HF.out.gd HNB.out).2 HF.out.gd.ok.symm).mono ?_
              rintro e w' ⟨h1, h2⟩
              have hb' : Below wr.heap.size wr w' := h.trans (h2.mono h0)
              exact ⟨h1, hb', HKC.out w' hb'⟩
            have HC2 : Hid (∀ w0, Below wr.heap.size wr w0 → Calls Try.prog 21 #[.agg #[.slice b nb cb], .slice (some ⟨w4.heap.size, 0, none⟩) 2 2] w0 fun e w' => e = .returned (.int .i64 (tA + (1 + t))) ∧ Hid (Below wr.heap.size wr w') ∧ (w'.cell? ⟨w2.heap.size, 0, none⟩ = some (.slice a na ca) ∧ w'.cell? ⟨w6.heap.size, 0, none⟩ = some (.slice b nb cb))) := by
              intro w0 h
              have h0 := h.size
              refine (bagTimes_any _ _ _ _ b (some ⟨w4.heap.size, 0, none⟩) nb cb 2 2 D [r0, r1] (tA + (1 + t)) w0 (HXB.out.below h (by omega)) (HRW.out.below h (by omega)) (by omega) (by omega) HNB.out rfl (good_b' HF.out.gd HNB.out).1 (good_b' HF.out.gd HNB.out).2 (by rw [HTA.out, HF.out.same])).mono ?_
              rintro e w' ⟨h1, h2⟩
              have hb' : Below wr.heap.size wr w' := h.trans (h2.mono h0)
              exact ⟨h1, hb', HKC.out w' hb'⟩
            have HC3 : Hid (∀ w0, Below wr.heap.size wr w0 → Calls Try.prog 24 #[.agg #[.slice a na ca], .slice (some ⟨w4.heap.size, 0, none⟩) 2 2] w0 fun e w' => e = .returned (.int .i64 tA) ∧ Hid (Below wr.heap.size wr w') ∧ (w'.cell? ⟨w2.heap.size, 0, none⟩ = some (.slice a na ca) ∧ w'.cell? ⟨w6.heap.size, 0, none⟩ = some (.slice b nb cb))) := by
              intro w0 h
              have h0 := h.size
              refine (specTimes_any _ _ _ _ a (some ⟨w4.heap.size, 0, none⟩) na ca 2 2 A [r0, r1] tA w0 (HXA.out.below h (by omega)) (HRW.out.below h (by omega)) (by omega) (by omega) HNA.out rfl (good_b' HF.out.ga HNA.out).1 (good_b' HF.out.ga HNA.out).2 HTA.out).mono ?_
              rintro e w' ⟨h1, h2⟩
              have hb' : Below wr.heap.size wr w' := h.trans (h2.mono h0)
              exact ⟨h1, hb', HKC.out w' hb'⟩
            have HC4 : Hid (∀ w0, Below wr.heap.size wr w0 → Calls Try.prog 25 #[.agg #[.slice b nb cb]] w0 fun e w' => e = .returned (.int .i64 (sA + (1 + t))) ∧ Hid (Below wr.heap.size wr w') ∧ (w'.cell? ⟨w2.heap.size, 0, none⟩ = some (.slice a na ca) ∧ w'.cell? ⟨w6.heap.size, 0, none⟩ = some (.slice b nb cb))) := by
              intro w0 h
              have h0 := h.size
              refine (bagSize_any _ _ b nb cb D (sA + (1 + t)) w0 (HXB.out.below h (by omega)) (by omega) HNB.out (good_b' HF.out.gd HNB.out).1 (good_b' HF.out.gd HNB.out).2 (by rw [HSA.out, HF.out.size])).mono ?_
              rintro e w' ⟨h1, h2⟩
              have hb' : Below wr.heap.size wr w' := h.trans (h2.mono h0)
              exact ⟨h1, hb', HKC.out w' hb'⟩
            have HC5 : Hid (∀ w0, Below wr.heap.size wr w0 → Calls Try.prog 26 #[.agg #[.slice a na ca]] w0 fun e w' => e = .returned (.int .i64 sA) ∧ Hid (Below wr.heap.size wr w') ∧ (w'.cell? ⟨w2.heap.size, 0, none⟩ = some (.slice a na ca) ∧ w'.cell? ⟨w6.heap.size, 0, none⟩ = some (.slice b nb cb))) := by
              intro w0 h
              have h0 := h.size
              refine (specSize_any _ _ a na ca A sA w0 (HXA.out.below h (by omega)) (by omega) HNA.out (good_b' HF.out.ga HNA.out).1 (good_b' HF.out.ga HNA.out).2 HSA.out).mono ?_
              rintro e w' ⟨h1, h2⟩
              have hb' : Below wr.heap.size wr w' := h.trans (h2.mono h0)
              exact ⟨h1, hb', HKC.out w' hb'⟩
            have BL0 : Hid (Below w.heap.size w wr) := HDQ.out.bel
            clear HDQ HXA HRW
            go_wp2_with fail
            go_region_held3 (fun w' => w'.cell? ⟨w2.heap.size, 0, none⟩ = some (.slice a na ca) ∧ w'.cell? ⟨w6.heap.size, 0, none⟩ = some (.slice b nb cb)) (first | exact ⟨qa, qb⟩ | exact hk8) (first | (go_at_call 23; refine (HC1.out _ ((Below.refl _ _).drew)).mono ?_; rintro e w8 ⟨rfl, B8, hk8⟩) | (go_at_call 21; refine (HC2.out _ B8.out).mono ?_; rintro e w8 ⟨rfl, B8, hk8⟩) | (go_at_call 24; refine (HC3.out _ B8.out).mono ?_; rintro e w8 ⟨rfl, B8, hk8⟩) | (go_at_call 25; refine (HC4.out _ B8.out).mono ?_; rintro e w8 ⟨rfl, B8, hk8⟩) | (go_at_call 26; refine (HC5.out _ B8.out).mono ?_; rintro e w8 ⟨rfl, B8, hk8⟩))
            go_wp2
            go_ret
            exact ⟨rfl, BL0.out.trans (B8.out.mono BL0.out.size)⟩
end Go.Proofs.Ytijbngdafgmpaaa
