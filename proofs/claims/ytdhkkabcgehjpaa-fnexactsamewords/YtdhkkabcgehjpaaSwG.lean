/-
  Whether a word leads anywhere, by the model: spec.l07Goes.
-/
import Derived.Test.YtdhkkabcgehjpaaNtS
import Derived.Test.YtdhkkabcgehjpaaSwM
namespace Go.Proofs.Ytdhkkabcgehjpaa
open Go.RowKit

/-- all states as ends -/
def allE (m : Nat) : List Bool := List.replicate m true
theorem allE_len (m : Nat) : (allE m).length = m := by simp [allE]
theorem allE_get {m i : Nat} (h : i < m) : (allE m).getD i false = true := by simp [allE, List.getD, h]

set_option maxHeartbeats 4000000 in
set_option maxRecDepth 100000 in
theorem goes_any (lo hi : Nat) (em : Nat) (a : Option Addr) (n cap : Nat) (l : List Ed) (eb : Option Addr) (em2 ec : Nat) (T : ByteArray) (k : Nat) (r : Bool) (w : World) (ha : EdgesIn lo hi w a l) (hh : hi ≤ w.heap.size) (hn : l.length = n) (hm : n ≤ 1048576) (he : 1 ≤ em ∧ em ≤ 24) (ht : T.size = k) (hr : r = takesN (em : Int) l em (allE em) T k) :
    Calls Try.prog 56 #[nv (em : Int) a n cap eb em2 ec, .string T] w fun e w' => e = .returned (.bool r) ∧ Hid (Below w.heap.size w w') := by
  obtain ⟨B, HB⟩ : ∃ B, Hid (B = w.heap.size) := ⟨_, rfl⟩
  obtain ⟨W, HW⟩ : ∃ W, Hid (W = w.alloc (.cells #[.int .i64 (em : Int), .slice a n cap, .slice eb em2 ec] 30)) := ⟨_, rfl⟩
  have HBW : Hid (Below w.heap.size w W) := by rw [HW.out]; exact below1 w _
  have HSW : Hid (W.heap.size = B + 1) := by rw [HW.out, HB.out]; show _ = _; simp
  have HNW : Hid (Blk W B 3 (nf (em : Int) a n cap eb em2 ec)) := by rw [HW.out]; exact blk_nf w B HB.out _ _ _ _ _ _ _ _
  have HCT : Hid (∀ (g c : Nat) w0, Below (B + 1) W w0 → BBlk w0 g em (fun _ => true) → Calls Try.prog 8 #[nv (em : Int) a n cap (some ⟨g, 0, none⟩) em c, .string T] w0 fun e w' => e = .returned (.bool r) ∧ Hid (Below w0.heap.size w0 w')) := fun g c w0 h hb =>
    specTakesN_any 0 w0.heap.size (em : Int) a n cap l (some ⟨g, 0, none⟩) em c (allE em) T k r w0 (((ha.below HBW.out hh).below h (by have := HB.out; omega)).wide (Nat.zero_le _) (by have := HBW.out.size; have := h.size; omega)) (.inr ⟨g, 0, rfl, Nat.zero_le _, hb.lt, fun i hi => by rw [allE_len] at hi; rw [Nat.zero_add, hb.get hi, allE_get hi]⟩) (Nat.le_refl _) hn (allE_len em) hm ht hr
  clear ha hh hn hm ht hr
  have hmk := run_make_row' (P := Try.prog) 23 4 (.bool false) 1 Try.underlying23 info4B' rfl .i64 .i64 em (by omega) (by omega)
  have he0 : (0 : Int) ≤ (em : Int) := by omega
  obtain ⟨c0, c1, c2⟩ := nf_cells HNW.out
  have HKS : Hid (∀ wz, Below (B + 1) W wz → (wz.cell? ⟨B, 0, none⟩ = some (.int .i64 (em : Int))) ∧ (wz.cell? ⟨B, 1, none⟩ = some (.slice a n cap))) := fun wz h => by
    obtain ⟨d0, d1, _⟩ := nf_cells (HNW.out.of_block (h.block _ (by omega)))
    exact ⟨d0, d1⟩
  go_enter Try.func56, Try.ntmps56
  go_upto_region 1 with fail
  rw [← HB.out, ← HW.out]
  clear HW c0 c1 c2
  have HBD : Hid (Below (B + 1) W W.drew) := (Below.refl _ _).drew
  refine wp_region_held_drew (S := fun wz => (wz.cell? ⟨B, 0, none⟩ = some (.int .i64 (em : Int))) ∧ (wz.cell? ⟨B, 1, none⟩ = some (.slice a n cap))) (by kernel_rfl) (HKS.out _ HBD.out) (fun hHeld => ?_)
  refine wpAnyH_take (i := 0) (oi := { dst := some 7, op := Go.Op.fieldAddr 30 (Go.Operand.tmp 2) 0, type := 0, pos := "l07_nfa.go:317", after := #[], guard := none }) (v := ?_) rfl (by kernel_rfl) (by kernel_rfl) (by kernel_rfl) (fun _ _ _ h => h) (Or.inl ⟨by kernel_rfl, ?_⟩) (by assumption) ?_
  rotate_left
  · intro w hSw; (try dsimp only at hSw); go_simp; try with_reducible rfl
  simp only [Act.put, List.setIfInBounds_toArray, List.set_cons_zero, List.set_cons_succ]
  refine wpAnyH_take (i := 1) (oi := { dst := some 8, op := Go.Op.load 3 (Go.Operand.tmp 7), type := 3, pos := "l07_nfa.go:317", after := #[{ on := 0, ground := Go.Ground.data }], guard := none }) (v := ?_) rfl (by kernel_rfl) (by kernel_rfl) (by kernel_rfl) (fun _ _ _ h => h) (Or.inl ⟨by kernel_rfl, ?_⟩) (by assumption) ?_
  rotate_left
  · intro w hSw; (try dsimp only at hSw); go_simp; try with_reducible rfl
  simp only [Act.put, List.setIfInBounds_toArray, List.set_cons_zero, List.set_cons_succ]
  refine wpAnyH_take (i := 2) (oi := { dst := some 9, op := Go.Op.fieldAddr 30 (Go.Operand.tmp 2) 1, type := 0, pos := "l07_nfa.go:317", after := #[], guard := none }) (v := ?_) rfl (by kernel_rfl) (by kernel_rfl) (by kernel_rfl) (fun _ _ _ h => h) (Or.inl ⟨by kernel_rfl, ?_⟩) (by assumption) ?_
  rotate_left
  · intro w hSw; (try dsimp only at hSw); go_simp; try with_reducible rfl
  simp only [Act.put, List.setIfInBounds_toArray, List.set_cons_zero, List.set_cons_succ]
  refine wpAnyH_take (i := 3) (oi := { dst := some 10, op := Go.Op.load 28 (Go.Operand.tmp 9), type := 28, pos := "l07_nfa.go:317", after := #[{ on := 2, ground := Go.Ground.data }], guard := none }) (v := ?_) rfl (by kernel_rfl) (by kernel_rfl) (by kernel_rfl) (fun _ _ _ h => h) (Or.inl ⟨by kernel_rfl, ?_⟩) (by assumption) ?_
  rotate_left
  · intro w hSw; (try dsimp only at hSw); go_simp; try with_reducible rfl
  simp only [Act.put, List.setIfInBounds_toArray, List.set_cons_zero, List.set_cons_succ]
  refine wpAnyH_take (i := 4) (oi := { dst := some 11, op := Go.Op.fieldAddr 30 (Go.Operand.tmp 2) 0, type := 0, pos := "l07_nfa.go:317", after := #[], guard := none }) (v := ?_) rfl (by kernel_rfl) (by kernel_rfl) (by kernel_rfl) (fun _ _ _ h => h) (Or.inl ⟨by kernel_rfl, ?_⟩) (by assumption) ?_
  rotate_left
  · intro w hSw; (try dsimp only at hSw); go_simp; try with_reducible rfl
  simp only [Act.put, List.setIfInBounds_toArray, List.set_cons_zero, List.set_cons_succ]
  refine wpAnyH_take (i := 5) (oi := { dst := some 12, op := Go.Op.load 3 (Go.Operand.tmp 11), type := 3, pos := "l07_nfa.go:317", after := #[{ on := 4, ground := Go.Ground.data }], guard := none }) (v := ?_) rfl (by kernel_rfl) (by kernel_rfl) (by kernel_rfl) (fun _ _ _ h => h) (Or.inl ⟨by kernel_rfl, ?_⟩) (by assumption) ?_
  rotate_left
  · intro w hSw; (try dsimp only at hSw); go_simp; try with_reducible rfl
  simp only [Act.put, List.setIfInBounds_toArray, List.set_cons_zero, List.set_cons_succ]
  refine wpAnyH_ready (rs := [6, 8]) (by kernel_rfl) (by simp) ?_
  refine AllReadyH.cons (o := { dst := some 13, op := Go.Op.makeSlice 23 (Go.Operand.tmp 12) (Go.Operand.tmp 12), type := 23, pos := "l07_nfa.go:317", after := #[{ on := 5, ground := Go.Ground.data }, { on := 5, ground := Go.Ground.data }], guard := none }) rfl (fun K hK => ?_) ?_
  · go_simp
    have HBM : Hid (Below (B + 1) W (W.drew.alloc (.cells (madeCells #[.bool false] em) 4))) := HBD.out.alloc (by have := HBD.out.size; have := HSW.out; omega) _
    have HZ : Hid (BBlk (W.drew.alloc (.cells (madeCells #[.bool false] em) 4)) W.drew.heap.size em noB) := by obtain ⟨c, hb, hn', hc⟩ := World.rowIs_made W.drew (.bool false) em 4; exact ⟨c, 4, hb, fun i hi => by rw [hc i hi]; rfl⟩
    refine hK.out _ _ (HKS.out _ HBM.out) (fun hHeld => ?_)
    clear hK K
    try simp only [Act.put, List.setIfInBounds_toArray, List.set_cons_zero, List.set_cons_succ]
    refine wpAnyH_take (i := 7) (oi := { dst := some 14, op := Go.Op.build 30 #[(0, Go.Operand.tmp 8), (1, Go.Operand.tmp 10), (2, Go.Operand.tmp 13)], type := 30, pos := "l07_nfa.go:317", after := #[{ on := 1, ground := Go.Ground.data }, { on := 3, ground := Go.Ground.data }, { on := 6, ground := Go.Ground.data }], guard := none }) (v := ?_) rfl (by kernel_rfl) (by kernel_rfl) (by kernel_rfl) (fun _ _ _ h => h) (Or.inl ⟨by kernel_rfl, ?_⟩) (by assumption) ?_
    rotate_left
    · intro w hSw; (try dsimp only at hSw); go_simp; try with_reducible rfl
    simp only [Act.put, List.setIfInBounds_toArray, List.set_cons_zero, List.set_cons_succ]
    refine wpAnyH_ready (rs := [8]) (by kernel_rfl) (by simp) ?_
    refine AllReadyH.cons (o := { dst := some 5, op := Go.Op.alloc 30, type := 0, pos := "l07_nfa.go:317", after := #[], guard := none }) rfl (fun K hK => ?_) ?_
    · go_simp
      have HBA : Hid (Below (B + 1) W ((W.drew.alloc (.cells (madeCells #[.bool false] em) 4)).alloc (.cells #[.int .i64 0, .slice none 0 0, .slice none 0 0] 30))) := HBM.out.alloc (by have := HBM.out.size; have := HSW.out; omega) _
      refine hK.out _ _ (HKS.out _ HBA.out) (fun hHeld => ?_)
      clear hK K
      try simp only [Act.put, List.setIfInBounds_toArray, List.set_cons_zero, List.set_cons_succ]
      refine wpAnyH_ready (rs := [9]) (by kernel_rfl) (by simp) ?_
      refine AllReadyH.cons (o := { dst := none, op := Go.Op.store 30 (Go.Operand.tmp 5) (Go.Operand.tmp 14), type := 0, pos := "l07_nfa.go:317", after := #[{ on := 8, ground := Go.Ground.data }, { on := 7, ground := Go.Ground.data }, { on := 0, ground := Go.Ground.phase }, { on := 1, ground := Go.Ground.phase }, { on := 2, ground := Go.Ground.phase }, { on := 3, ground := Go.Ground.phase }, { on := 4, ground := Go.Ground.phase }, { on := 5, ground := Go.Ground.phase }, { on := 6, ground := Go.Ground.phase }, { on := 7, ground := Go.Ground.phase }, { on := 8, ground := Go.Ground.phase }], guard := none }) rfl (fun K hK => ?_) ?_
      · go_simp
        have HBX : Hid (Below (B + 1) W (((W.alloc (.cells (madeCells #[.bool false] em) 4)).alloc (.cells #[.int .i64 (em : Int), .slice a n cap, .slice (some ⟨W.heap.size, 0, none⟩) em em] 30)).drew)) := (((Below.refl (B + 1) W).alloc (by rw [HSW.out]; exact Nat.le_refl _) _).alloc (by have := HSW.out; simp; omega) _).drew
        refine hK.out _ _ (HKS.out _ HBX.out) (fun hHeld => ?_)
        clear hK K
        try simp only [Act.put, List.setIfInBounds_toArray, List.set_cons_zero, List.set_cons_succ]
        refine wpAnyH_done (by kernel_rfl) ?_ _
        clear hHeld
        obtain ⟨D, HD⟩ : ∃ D, Hid (D = W.heap.size) := ⟨_, rfl⟩
        have HDB : Hid (D = B + 1) := by show _ = _; rw [HD.out, HSW.out]
        have HZX : Hid (BBlk (((W.alloc (.cells (madeCells #[.bool false] em) 4)).alloc (.cells #[.int .i64 (em : Int), .slice a n cap, .slice (some ⟨D, 0, none⟩) em em] 30)).drew) (D) em noB) := by
          rw [HD.out]
          obtain ⟨c, hb, hn', hc⟩ := World.rowIs_made W (.bool false) em 4
          exact Blk.alloc ⟨c, 4, hb, fun i hi => by rw [hc i hi]; rfl⟩ _
        have HPX : Hid (Blk (((W.alloc (.cells (madeCells #[.bool false] em) 4)).alloc (.cells #[.int .i64 (em : Int), .slice a n cap, .slice (some ⟨D, 0, none⟩) em em] 30)).drew) (D + 1) 3 (nf (em : Int) a n cap (some ⟨D, 0, none⟩) em em)) := by
          rw [HD.out]
          exact blk_nf (W.alloc _) (W.heap.size + 1) (by simp) _ _ _ _ _ _ _ _
        rw [← HD.out] at HBX
        rw [← HD.out]
        obtain ⟨X, HXX⟩ : ∃ X, Hid (X = ((W.alloc (.cells (madeCells #[.bool false] em) 4)).alloc (.cells #[.int .i64 (em : Int), .slice a n cap, .slice (some ⟨D, 0, none⟩) em em] 30)).drew) := ⟨_, rfl⟩
        have HBX2 : Hid (Below (B + 1) W X) := by rw [HXX.out]; exact HBX.out
        rw [← HXX.out] at HZX HPX
        rw [← HXX.out]
        clear HXX HBX HD
        have HNX : Hid (Blk X B 3 (nf (em : Int) a n cap eb em2 ec)) := HNW.out.of_block (HBX2.out.block _ (by omega))
        go_wp2
        go_loopw [6] (fun i wr => ∃ y : Nat, i = .int .i64 y ∧ y ≤ em ∧ Hid (BBlk wr (D) em (fun i => decide (i < y))) ∧ Hid (KeptP (fun c => c = D) X wr)) (fun i _ => em - (intOf i).toNat)
        case atStart => exact ⟨0, rfl, by omega, HZX.out.congr (fun i _ => by simp [noB]), KeptP.refl _ _⟩
        case round =>
          obtain ⟨y, rfl, hy, HS, HL⟩ := hrel
          have HBR : Hid (Below (B + 1) W wr) := HBX2.out.trans (HL.out.to_below (by have := HBX2.out.size; have := HSW.out; omega) (fun c hc => by have := HDB.out; omega))
          have HNR : Hid (Blk wr B 3 (nf (em : Int) a n cap eb em2 ec)) := HL.out.blk HNX.out (by have := HDB.out; omega)
          have HPR : Hid (Blk wr (D + 1) 3 (nf (em : Int) a n cap (some ⟨D, 0, none⟩) em em)) := HL.out.blk HPX.out (by omega)
          obtain ⟨c0, c1, c2⟩ := nf_cells HNR.out
          obtain ⟨d0, d1, d2⟩ := nf_cells HPR.out
          by_cases hlt : y < em
          · have hy1 : (y : Int) < (em : Int) := by omega
            have hy0 : (0 : Int) ≤ (y : Int) := by omega
            have x0 := HS.out.get hlt
            have xf := Blk.frozen HS.out y
            have HNX1 : Hid (∀ i, i < em → (if i = y then true else decide (i < y)) = decide (i < y + 1)) := fun i _ => by
              by_cases e : i = y
              · subst e; simp
              · by_cases h2 : i < y
                · simp [e, h2, show i < y + 1 by omega]
                · simp [e, h2, show ¬ i < y + 1 by omega]
            go_wp2
            go_roundw
            case rel => exact ⟨y + 1, by go_num, by omega, (HS.out.set1 hlt true).congr HNX1.out, HL.out.setCell rfl _⟩
            case measure => simp [intOf]; omega
          · obtain rfl : y = em := by omega
            have HCC : Hid (Calls Try.prog 8 #[nv (y : Int) a n cap (some ⟨D, 0, none⟩) y y, .string T] wr fun e w' => e = .returned (.bool r) ∧ Hid (Below wr.heap.size wr w')) := HCT.out _ _ wr HBR.out (HS.out.congr (fun i hi => by simp [hi]))
            go_wp2_with fail
            refine HCC.out.mono ?_
            rintro e w4 ⟨rfl, HB4⟩
            go_wp2
            go_ret
            have hb := HB.out
            exact ⟨rfl, HBW.out.trans ((HBR.out.mono (by omega)).trans (HB4.out.mono (by have := HBR.out.size; have := HBW.out.size; omega)))⟩
      exact AllReadyH.nil
    exact AllReadyH.nil
  refine AllReadyH.cons (o := { dst := some 5, op := Go.Op.alloc 30, type := 0, pos := "l07_nfa.go:317", after := #[], guard := none }) rfl (fun K hK => ?_) ?_
  · go_simp
    have HBA : Hid (Below (B + 1) W (W.drew.alloc (.cells #[.int .i64 0, .slice none 0 0, .slice none 0 0] 30))) := HBD.out.alloc (by have := HBD.out.size; have := HSW.out; omega) _
    refine hK.out _ _ (HKS.out _ HBA.out) (fun hHeld => ?_)
    clear hK K
    try simp only [Act.put, List.setIfInBounds_toArray, List.set_cons_zero, List.set_cons_succ]
    refine wpAnyH_ready (rs := [6]) (by kernel_rfl) (by simp) ?_
    refine AllReadyH.cons (o := { dst := some 13, op := Go.Op.makeSlice 23 (Go.Operand.tmp 12) (Go.Operand.tmp 12), type := 23, pos := "l07_nfa.go:317", after := #[{ on := 5, ground := Go.Ground.data }, { on := 5, ground := Go.Ground.data }], guard := none }) rfl (fun K hK => ?_) ?_
    · go_simp
      have HBM : Hid (Below (B + 1) W ((W.drew.alloc (.cells #[.int .i64 0, .slice none 0 0, .slice none 0 0] 30)).alloc (.cells (madeCells #[.bool false] em) 4))) := HBA.out.alloc (by have := HBA.out.size; have := HSW.out; omega) _
      have HZ : Hid (BBlk ((W.drew.alloc (.cells #[.int .i64 0, .slice none 0 0, .slice none 0 0] 30)).alloc (.cells (madeCells #[.bool false] em) 4)) (W.drew.alloc (.cells #[.int .i64 0, .slice none 0 0, .slice none 0 0] 30)).heap.size em noB) := by obtain ⟨c, hb, hn', hc⟩ := World.rowIs_made (W.drew.alloc (.cells #[.int .i64 0, .slice none 0 0, .slice none 0 0] 30)) (.bool false) em 4; exact ⟨c, 4, hb, fun i hi => by rw [hc i hi]; rfl⟩
      refine hK.out _ _ (HKS.out _ HBM.out) (fun hHeld => ?_)
      clear hK K
      try simp only [Act.put, List.setIfInBounds_toArray, List.set_cons_zero, List.set_cons_succ]
      refine wpAnyH_take (i := 7) (oi := { dst := some 14, op := Go.Op.build 30 #[(0, Go.Operand.tmp 8), (1, Go.Operand.tmp 10), (2, Go.Operand.tmp 13)], type := 30, pos := "l07_nfa.go:317", after := #[{ on := 1, ground := Go.Ground.data }, { on := 3, ground := Go.Ground.data }, { on := 6, ground := Go.Ground.data }], guard := none }) (v := ?_) rfl (by kernel_rfl) (by kernel_rfl) (by kernel_rfl) (fun _ _ _ h => h) (Or.inl ⟨by kernel_rfl, ?_⟩) (by assumption) ?_
      rotate_left
      · intro w hSw; (try dsimp only at hSw); go_simp; try with_reducible rfl
      simp only [Act.put, List.setIfInBounds_toArray, List.set_cons_zero, List.set_cons_succ]
      refine wpAnyH_ready (rs := [9]) (by kernel_rfl) (by simp) ?_
      refine AllReadyH.cons (o := { dst := none, op := Go.Op.store 30 (Go.Operand.tmp 5) (Go.Operand.tmp 14), type := 0, pos := "l07_nfa.go:317", after := #[{ on := 8, ground := Go.Ground.data }, { on := 7, ground := Go.Ground.data }, { on := 0, ground := Go.Ground.phase }, { on := 1, ground := Go.Ground.phase }, { on := 2, ground := Go.Ground.phase }, { on := 3, ground := Go.Ground.phase }, { on := 4, ground := Go.Ground.phase }, { on := 5, ground := Go.Ground.phase }, { on := 6, ground := Go.Ground.phase }, { on := 7, ground := Go.Ground.phase }, { on := 8, ground := Go.Ground.phase }], guard := none }) rfl (fun K hK => ?_) ?_
      · go_simp
        have HBX : Hid (Below (B + 1) W (((W.alloc (.cells #[.int .i64 (em : Int), .slice a n cap, .slice (some ⟨W.heap.size + 1, 0, none⟩) em em] 30)).alloc (.cells (madeCells #[.bool false] em) 4)).drew)) := (((Below.refl (B + 1) W).alloc (by rw [HSW.out]; exact Nat.le_refl _) _).alloc (by have := HSW.out; simp; omega) _).drew
        refine hK.out _ _ (HKS.out _ HBX.out) (fun hHeld => ?_)
        clear hK K
        try simp only [Act.put, List.setIfInBounds_toArray, List.set_cons_zero, List.set_cons_succ]
        refine wpAnyH_done (by kernel_rfl) ?_ _
        clear hHeld
        obtain ⟨D, HD⟩ : ∃ D, Hid (D = W.heap.size) := ⟨_, rfl⟩
        have HDB : Hid (D = B + 1) := by show _ = _; rw [HD.out, HSW.out]
        have HZX : Hid (BBlk (((W.alloc (.cells #[.int .i64 (em : Int), .slice a n cap, .slice (some ⟨D + 1, 0, none⟩) em em] 30)).alloc (.cells (madeCells #[.bool false] em) 4)).drew) (D + 1) em noB) := by
          rw [HD.out]
          obtain ⟨c, hb, hn', hc⟩ := World.rowIs_made (W.alloc (.cells #[.int .i64 (em : Int), .slice a n cap, .slice (some ⟨W.heap.size + 1, 0, none⟩) em em] 30)) (.bool false) em 4
          rw [show (W.alloc (.cells #[.int .i64 (em : Int), .slice a n cap, .slice (some ⟨W.heap.size + 1, 0, none⟩) em em] 30)).heap.size = W.heap.size + 1 by simp] at hb
          exact ⟨c, 4, hb, fun i hi => by rw [hc i hi]; rfl⟩
        have HPX : Hid (Blk (((W.alloc (.cells #[.int .i64 (em : Int), .slice a n cap, .slice (some ⟨D + 1, 0, none⟩) em em] 30)).alloc (.cells (madeCells #[.bool false] em) 4)).drew) (D) 3 (nf (em : Int) a n cap (some ⟨D + 1, 0, none⟩) em em)) := by
          rw [HD.out]
          exact Blk.alloc (blk_nf W W.heap.size rfl _ _ _ _ _ _ _ _) _
        rw [← HD.out] at HBX
        rw [← HD.out]
        obtain ⟨X, HXX⟩ : ∃ X, Hid (X = ((W.alloc (.cells #[.int .i64 (em : Int), .slice a n cap, .slice (some ⟨D + 1, 0, none⟩) em em] 30)).alloc (.cells (madeCells #[.bool false] em) 4)).drew) := ⟨_, rfl⟩
        have HBX2 : Hid (Below (B + 1) W X) := by rw [HXX.out]; exact HBX.out
        rw [← HXX.out] at HZX HPX
        rw [← HXX.out]
        clear HXX HBX HD
        have HNX : Hid (Blk X B 3 (nf (em : Int) a n cap eb em2 ec)) := HNW.out.of_block (HBX2.out.block _ (by omega))
        go_wp2
        go_loopw [6] (fun i wr => ∃ y : Nat, i = .int .i64 y ∧ y ≤ em ∧ Hid (BBlk wr (D + 1) em (fun i => decide (i < y))) ∧ Hid (KeptP (fun c => c = D + 1) X wr)) (fun i _ => em - (intOf i).toNat)
        case atStart => exact ⟨0, rfl, by omega, HZX.out.congr (fun i _ => by simp [noB]), KeptP.refl _ _⟩
        case round =>
          obtain ⟨y, rfl, hy, HS, HL⟩ := hrel
          have HBR : Hid (Below (B + 1) W wr) := HBX2.out.trans (HL.out.to_below (by have := HBX2.out.size; have := HSW.out; omega) (fun c hc => by have := HDB.out; omega))
          have HNR : Hid (Blk wr B 3 (nf (em : Int) a n cap eb em2 ec)) := HL.out.blk HNX.out (by have := HDB.out; omega)
          have HPR : Hid (Blk wr (D) 3 (nf (em : Int) a n cap (some ⟨D + 1, 0, none⟩) em em)) := HL.out.blk HPX.out (by omega)
          obtain ⟨c0, c1, c2⟩ := nf_cells HNR.out
          obtain ⟨d0, d1, d2⟩ := nf_cells HPR.out
          by_cases hlt : y < em
          · have hy1 : (y : Int) < (em : Int) := by omega
            have hy0 : (0 : Int) ≤ (y : Int) := by omega
            have x0 := HS.out.get hlt
            have xf := Blk.frozen HS.out y
            have HNX1 : Hid (∀ i, i < em → (if i = y then true else decide (i < y)) = decide (i < y + 1)) := fun i _ => by
              by_cases e : i = y
              · subst e; simp
              · by_cases h2 : i < y
                · simp [e, h2, show i < y + 1 by omega]
                · simp [e, h2, show ¬ i < y + 1 by omega]
            go_wp2
            go_roundw
            case rel => exact ⟨y + 1, by go_num, by omega, (HS.out.set1 hlt true).congr HNX1.out, HL.out.setCell rfl _⟩
            case measure => simp [intOf]; omega
          · obtain rfl : y = em := by omega
            have HCC : Hid (Calls Try.prog 8 #[nv (y : Int) a n cap (some ⟨D + 1, 0, none⟩) y y, .string T] wr fun e w' => e = .returned (.bool r) ∧ Hid (Below wr.heap.size wr w')) := HCT.out _ _ wr HBR.out (HS.out.congr (fun i hi => by simp [hi]))
            go_wp2_with fail
            refine HCC.out.mono ?_
            rintro e w4 ⟨rfl, HB4⟩
            go_wp2
            go_ret
            have hb := HB.out
            exact ⟨rfl, HBW.out.trans ((HBR.out.mono (by omega)).trans (HB4.out.mono (by have := HBR.out.size; have := HBW.out.size; omega)))⟩
      exact AllReadyH.nil
    exact AllReadyH.nil
  exact AllReadyH.nil
end Go.Proofs.Ytdhkkabcgehjpaa
