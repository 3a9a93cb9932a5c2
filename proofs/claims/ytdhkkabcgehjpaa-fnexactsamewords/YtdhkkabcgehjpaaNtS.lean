/-
  The words that an automaton takes, by the model: spec.NfaTakes.
-/
import Derived.Test.YtdhkkabcgehjpaaNtA
import Derived.Test.YtdhkkabcgehjpaaNOkS
namespace Go.Proofs.Ytdhkkabcgehjpaa
open Go.RowKit

theorem okE_in {m : Nat} {e : Ed} (h : okE (m : Int) e = true) : ∃ (f t : Nat) (c : Int), e = ((f : Int), c, (t : Int)) ∧ f < m ∧ t < m := by
  obtain ⟨x, y, z⟩ := e
  unfold okE inV at h
  simp only [Bool.and_eq_true, decide_eq_true_eq] at h
  exact ⟨x.toNat, z.toNat, y, by refine Prod.ext ?_ (Prod.ext rfl ?_) <;> simp <;> omega, by omega, by omega⟩

set_option maxHeartbeats 4000000 in
set_option maxRecDepth 100000 in
theorem specTakesN_any (lo hi : Nat) (s : Int) (a : Option Addr) (n cap : Nat) (l : List Ed) (eb : Option Addr) (em ec : Nat) (es : List Bool) (T : ByteArray) (k : Nat) (r : Bool) (w : World) (ha : EdgesIn lo hi w a l) (hbi : BlsIn lo hi w eb es) (hh : hi ≤ w.heap.size) (hn : l.length = n) (hje : es.length = em) (hm : n ≤ 1048576) (ht : T.size = k) (hr : r = takesN s l em es T k) :
    Calls Try.prog 8 #[nv s a n cap eb em ec, .string T] w fun e w' => e = .returned (.bool r) ∧ Hid (Below w.heap.size w w') := by
  have HR : Hid (r = takesN s l em es T k) := hr
  have HT : Hid (T.size = k) := ht
  have HN : Hid (l.length = n) := hn
  have HJ : Hid (es.length = em) := hje
  have hsz : (T.size : Int) = (k : Int) := by rw [ht]
  obtain ⟨u, HU⟩ : ∃ u, Hid (u = okN s l em) := ⟨_, rfl⟩
  obtain ⟨B, HB⟩ : ∃ B, Hid (B = w.heap.size) := ⟨_, rfl⟩
  obtain ⟨W, HW⟩ : ∃ W, Hid (W = w.alloc (.cells #[.int .i64 s, .slice a n cap, .slice eb em ec] 30)) := ⟨_, rfl⟩
  have HBW : Hid (Below w.heap.size w W) := by rw [HW.out]; exact below1 w _
  have HNW : Hid (Blk W B 3 (nf s a n cap eb em ec)) := by rw [HW.out]; exact blk_nf w B HB.out _ _ _ _ _ _ _ _
  have HSW : Hid (W.heap.size = B + 1) := by rw [HW.out, HB.out]; show _ = _; simp
  have HA : Hid (EdgesIn lo hi W a l) := ha.below HBW.out hh
  have HBI : Hid (BlsIn lo hi W eb es) := hbi.below HBW.out hh
  have HH : Hid (hi ≤ B) := by rw [HB.out]; exact hh
  have HC : Hid (Calls Try.prog 29 #[nv s a n cap eb em ec] W fun e w' => e = .returned (.bool u) ∧ Hid (Below W.heap.size W w')) := specNOk_any lo hi s a n cap l eb em ec u W HA.out (Nat.le_trans hh HBW.out.size) hn hm HU.out
  clear ha hbi hh hn hje hr ht
  obtain ⟨c0, c1, c2⟩ := nf_cells HNW.out
  go_enter Try.func8, Try.ntmps8
  go_upto_region 1 with fail
  rw [← HB.out, ← HW.out]
  clear HW
  go_wp2_with fail
  refine HC.out.mono ?_
  rintro e w1 ⟨rfl, HB1⟩
  have HBE1 : Hid (Below w.heap.size w w1) := HBW.out.trans (HB1.out.mono HBW.out.size)
  have HBB1 : Hid (Below (B + 1) W w1) := by rw [← HSW.out]; exact HB1.out
  have HN1 : Hid (Blk w1 B 3 (nf s a n cap eb em ec)) := HNW.out.of_block (HB1.out.block _ HNW.out.lt)
  clear c0 c1 c2
  rcases Bool.eq_false_or_eq_true u with hu | hu
  · subst hu
    have HOK : Hid (okN s l em = true) := HU.out.symm
    have HRR : Hid (r = (decide (k ≤ 12) && endTo (endM es) (runL l T k) 24)) := by show _ = _; rw [HR.out]; unfold takesN; rw [HOK.out, Bool.true_and]
    obtain ⟨hs1, hs2, rfl⟩ := okN_size HOK.out
    by_cases h12 : k ≤ 12
    · have hg : ¬ (12 : Int) < (k : Int) := by omega
      have HRE : Hid (r = endTo (endM es) (runL l T k) em) := by show _ = _; rw [HRR.out, end_high HJ.out _ (show em ≤ 24 by omega)]; simp [h12]
      have hmk := run_make_row' (P := Try.prog) 23 4 (.bool false) 1 Try.underlying23 info4B' rfl .i64 .i64 em (by omega) (by omega)
      obtain ⟨c0, c1, c2⟩ := nf_cells HN1.out
      have he0 : (0 : Int) < (em : Int) := by omega
      have he1 : (0 : Int) ≤ (em : Int) := by omega
      obtain ⟨P, HPP⟩ : ∃ P, Hid (P = w1.heap.size) := ⟨_, rfl⟩
      have HBP : Hid (B + 1 ≤ P) := by have := HB1.out.size; have := HSW.out; have := HPP.out; show _ ≤ _; omega
      obtain ⟨V, HV⟩ : ∃ V, Hid (V = w1.alloc (.cells (madeCells #[.bool false] em) 4)) := ⟨_, rfl⟩
      have HZ : Hid (BBlk V P em noB) := by
        rw [HV.out, HPP.out]
        obtain ⟨c, hb, hn', hc⟩ := World.rowIs_made w1 (.bool false) em 4
        exact ⟨c, 4, hb, fun i hi => by rw [hc i hi]; rfl⟩
      have HBV : Hid (Below (B + 1) W V) := by rw [HV.out]; exact HBB1.out.trans ((below1 w1 _).mono (by have := HBP.out; have := HPP.out; omega))
      have HNV : Hid (Blk V B 3 (nf (em : Int) a n cap eb em ec)) := HNW.out.of_block (HBV.out.block _ (by omega))
      go_upto_region 4 with fail
      rw [← HPP.out, ← HV.out]
      clear c0 c1 c2 HV HB1
      have z0 := HZ.out.get (k := 0) (by omega)
      have zf := Blk.frozen HZ.out 0
      obtain ⟨U, HUU⟩ : ∃ U, Hid (U = V.setCell ⟨P, 0, none⟩ (.bool true)) := ⟨_, rfl⟩
      have HSU : Hid (BBlk U P em oneS) := by rw [HUU.out]; exact (HZ.out.set1 (by omega) true).congr (fun i _ => by unfold oneS noB; by_cases e : i = 0 <;> simp [e])
      have HBU : Hid (Below (B + 1) W U) := by rw [HUU.out]; exact HBV.out.setCell (by show B + 1 ≤ P; exact HBP.out) _
      go_upto_region 5 with fail
      rw [← HUU.out]
      clear z0 zf HUU HZ
      go_wp2
      go_loopw [6, 5] (fun i v wr => ∃ x g : Nat, i = .int .i64 x ∧ v = .slice (some ⟨g, 0, none⟩) em em ∧ x ≤ k ∧ Hid (B + 1 ≤ g) ∧ Hid (BBlk wr g em (runL l T x)) ∧ Hid (Below (B + 1) W wr)) (fun i _ _ => k - (intOf i).toNat)
      case atStart => exact ⟨0, P, rfl, rfl, by omega, HBP, HSU, HBU⟩
      case round =>
        obtain ⟨x, g, rfl, rfl, hx, HG, HS, HL⟩ := hrel
        have HNR : Hid (Blk wr B 3 (nf (em : Int) a n cap eb em ec)) := HNW.out.of_block (HL.out.block _ (by omega))
        obtain ⟨c0, c1, c2⟩ := nf_cells HNR.out
        by_cases hlt : x < k
        · have hlt1 : (x : Int) < (k : Int) := by omega
          have hlt0 : (0 : Int) ≤ (x : Int) := by omega
          have hkT : x < T.size := by rw [HT.out]; exact hlt
          have hk2 : (x : Int) < (T.size : Int) := by omega
          have HBY : Hid ((T[x]'hkT).toNat = bt T x) := by show _ = _; rw [bt_lt hkT]
          obtain ⟨S, HSS⟩ : ∃ S : Nat → Bool, Hid (S = runL l T x) := ⟨_, rfl⟩
          rw [← HSS.out] at HS
          have HRN : Hid (∀ j, stepTo l (((T[x]'hkT).toNat : Nat) : Int) S n j = runL l T (x + 1) j) := fun j => by
            rw [stepTo_all HN.out, HSS.out, HBY.out]; rfl
          obtain ⟨D, HD⟩ : ∃ D, Hid (D = wr.heap.size) := ⟨_, rfl⟩
          have HGD : Hid (g < D) := by rw [HD.out]; exact HS.out.lt
          obtain ⟨Y, HY⟩ : ∃ V, Hid (V = wr.alloc (.cells (madeCells #[.bool false] em) 4)) := ⟨_, rfl⟩
          have HBY2 : Hid (Below wr.heap.size wr Y) := by rw [HY.out]; exact below1 _ _
          have HZY : Hid (BBlk Y D em noB) := by
            rw [HY.out, HD.out]
            obtain ⟨c, hb, hn', hc⟩ := World.rowIs_made wr (.bool false) em 4
            exact ⟨c, 4, hb, fun i hi => by rw [hc i hi]; rfl⟩
          have HSY : Hid (BBlk Y g em S) := HS.out.of (HBY2.out.block _ HS.out.lt)
          have HLY : Hid (Below (B + 1) W Y) := HL.out.trans (HBY2.out.mono (by have := HG.out; have := HGD.out; have := HD.out; omega))
          go_upto_region 9 with fail
          rw [← HD.out, ← HY.out]
          clear c0 c1 c2 HY
          go_wp2
          go_loopw [8] (fun i wr => ∃ y : Nat, i = .int .i64 y ∧ y ≤ n ∧ Hid (BBlk wr D em (stepTo l (((T[x]'hkT).toNat : Nat) : Int) S y)) ∧ Hid (KeptP (fun c => c = D) Y wr)) (fun i _ => n - (intOf i).toNat)
          case atStart => exact ⟨0, rfl, by omega, HZY.out.congr (fun i _ => by simp [stepTo, stepL, noB]), KeptP.refl _ _⟩
          case round =>
            obtain ⟨y, rfl, hy, HX, HK⟩ := hrel
            have HLQ : Hid (Below (B + 1) W wr) := HLY.out.trans (HK.out.to_below (by have := HLY.out.size; have := HSW.out; omega) (fun c hc => by have := HG.out; have := HGD.out; have := HSW.out; omega))
            have HNQ : Hid (Blk wr B 3 (nf (em : Int) a n cap eb em ec)) := HNW.out.of_block (HLQ.out.block _ (by omega))
            obtain ⟨c0, c1, c2⟩ := nf_cells HNQ.out
            by_cases hyn : y < n
            · have hy1 : (y : Int) < (n : Int) := by omega
              have hy0 : (0 : Int) ≤ (y : Int) := by omega
              have hyl : y < l.length := by rw [HN.out]; exact hyn
              have HBR : Hid (EdgesIn lo hi wr a l) := HA.out.below HLQ.out (by have := HH.out; omega)
              obtain ⟨b, o, rfl, _, _, hx2⟩ := HBR.out.edge (k := y) hyl
              obtain ⟨f, z, c, hxe, hf, hz⟩ := okE_in (okN_arc HOK.out hyl)
              have HST : Hid (∀ j, stepTo l (((T[x]'hkT).toNat : Nat) : Int) S (y + 1) j = (stepTo l (((T[x]'hkT).toNat : Nat) : Int) S y j || (S f && decide (c = (((T[x]'hkT).toNat : Nat) : Int)) && decide (z = j)))) := fun j => by
                rw [stepTo_succ hyl, hxe]
                show (_ || (S (f : Int).toNat && decide (c = _) && decide ((z : Int) = (j : Int)))) = _
                rw [show decide ((z : Int) = (j : Int)) = decide (z = j) from decide_eq_decide.2 ⟨fun h => by omega, fun h => by omega⟩, Int.toNat_natCast]
              rw [hxe] at hx2
              obtain ⟨p0, p1, p2⟩ := hx2
              dsimp only at p0 p1 p2
              clear hxe
              have HSQ : Hid (BBlk wr g em S) := HK.out.blk HSY.out (by have := HGD.out; omega)
              obtain ⟨v, HVV⟩ : ∃ v, Hid (v = S f) := ⟨_, rfl⟩
              have g0 := HSQ.out.get hf
              rw [← HVV.out] at g0 HST
              have hf0 : (0 : Int) ≤ (f : Int) := by omega
              have hf1 : (f : Int) < (em : Int) := by omega
              have hz0 : (0 : Int) ≤ (z : Int) := by omega
              have hz1 : (z : Int) < (em : Int) := by omega
              have x0 := HX.out.get hz
              have xf := Blk.frozen HX.out z
              clear c0 c2
              go_upto_region 12 with fail
              have HKD : Hid (KeptP (fun c => c = D) Y wr.drew) := HK.out.trans (KeptP.of_below (B := wr.heap.size) ((Below.refl _ _).drew) (fun k hk hn => by omega))
              rcases Bool.eq_false_or_eq_true v with hv | hv
              · subst hv
                by_cases hB : c = (((T[x]'hkT).toNat : Nat) : Int)
                · subst hB
                  have HNX : Hid (∀ j, j < em → (if j = z then true else stepTo l (((T[x]'hkT).toNat : Nat) : Int) S y j) = stepTo l (((T[x]'hkT).toNat : Nat) : Int) S (y + 1) j) := by
                    intro j _
                    rw [HST.out j]
                    by_cases e : j = z
                    · subst e; simp
                    · simp [e, Ne.symm e]
                  refine wp_region_held_drew (S := fun w' => (w'.cell? ⟨B, 1, none⟩ = some (.slice (some ⟨b, o, none⟩) n cap)) ∧ (w'.cell? ⟨b, o + y * 3, none⟩ = some (.int .i64 (f : Int)) ∧ w'.cell? ⟨b, o + y * 3 + 1, none⟩ = some (.int .u8 (((T[x]'hkT).toNat : Nat) : Int))) ∧ w'.cell? ⟨g, f, none⟩ = some (.bool true)) (by kernel_rfl) (show (fun w' => (w'.cell? ⟨B, 1, none⟩ = some (.slice (some ⟨b, o, none⟩) n cap)) ∧ (w'.cell? ⟨b, o + y * 3, none⟩ = some (.int .i64 (f : Int)) ∧ w'.cell? ⟨b, o + y * 3 + 1, none⟩ = some (.int .u8 (((T[x]'hkT).toNat : Nat) : Int))) ∧ w'.cell? ⟨g, f, none⟩ = some (.bool true)) wr.drew from ⟨c1, ⟨p0, p1⟩, g0⟩) (fun hHeld => ?_)
                  refine wpAnyH_take (i := 0) (oi := { dst := some 39, op := Go.Op.move (Go.Operand.tmp 5), type := 23, pos := "l07_nfa.go:167", after := #[], guard := none }) (v := ?_) rfl (by kernel_rfl) (by kernel_rfl) (by kernel_rfl) (fun _ _ _ h => h) (Or.inl ⟨by kernel_rfl, ?_⟩) (by assumption) ?_
                  rotate_left
                  · intro w hSw; (try dsimp only at hSw); go_simp; try with_reducible rfl
                  simp only [Act.put, List.setIfInBounds_toArray, List.set_cons_zero, List.set_cons_succ]
                  refine wpAnyH_take (i := 1) (oi := { dst := some 40, op := Go.Op.fieldAddr 30 (Go.Operand.tmp 2) 1, type := 0, pos := "l07_nfa.go:167", after := #[], guard := none }) (v := ?_) rfl (by kernel_rfl) (by kernel_rfl) (by kernel_rfl) (fun _ _ _ h => h) (Or.inl ⟨by kernel_rfl, ?_⟩) (by assumption) ?_
                  rotate_left
                  · intro w hSw; (try dsimp only at hSw); go_simp; try with_reducible rfl
                  simp only [Act.put, List.setIfInBounds_toArray, List.set_cons_zero, List.set_cons_succ]
                  refine wpAnyH_take (i := 2) (oi := { dst := some 41, op := Go.Op.load 28 (Go.Operand.tmp 40), type := 28, pos := "l07_nfa.go:167", after := #[{ on := 1, ground := Go.Ground.data }], guard := none }) (v := ?_) rfl (by kernel_rfl) (by kernel_rfl) (by kernel_rfl) (fun _ _ _ h => h) (Or.inl ⟨by kernel_rfl, ?_⟩) (by assumption) ?_
                  rotate_left
                  · intro w hSw; (try dsimp only at hSw); go_simp; try with_reducible rfl
                  simp only [Act.put, List.setIfInBounds_toArray, List.set_cons_zero, List.set_cons_succ]
                  refine wpAnyH_take (i := 3) (oi := { dst := some 42, op := Go.Op.move (Go.Operand.tmp 8), type := 3, pos := "l07_nfa.go:167", after := #[], guard := none }) (v := ?_) rfl (by kernel_rfl) (by kernel_rfl) (by kernel_rfl) (fun _ _ _ h => h) (Or.inl ⟨by kernel_rfl, ?_⟩) (by assumption) ?_
                  rotate_left
                  · intro w hSw; (try dsimp only at hSw); go_simp; try with_reducible rfl
                  simp only [Act.put, List.setIfInBounds_toArray, List.set_cons_zero, List.set_cons_succ]
                  refine wpAnyH_take (i := 4) (oi := { dst := some 43, op := Go.Op.indexAddr 28 (Go.Operand.tmp 41) (Go.Operand.tmp 42), type := 0, pos := "l07_nfa.go:167", after := #[{ on := 2, ground := Go.Ground.data }, { on := 3, ground := Go.Ground.data }], guard := none }) (v := ?_) rfl (by kernel_rfl) (by kernel_rfl) (by kernel_rfl) (fun _ _ _ h => h) (Or.inl ⟨by kernel_rfl, ?_⟩) (by assumption) ?_
                  rotate_left
                  · intro w hSw; (try dsimp only at hSw); go_simp; try with_reducible rfl
                  simp only [Act.put, List.setIfInBounds_toArray, List.set_cons_zero, List.set_cons_succ]
                  refine wpAnyH_take (i := 5) (oi := { dst := some 44, op := Go.Op.fieldAddr 58 (Go.Operand.tmp 43) 0, type := 0, pos := "l07_nfa.go:167", after := #[{ on := 4, ground := Go.Ground.data }], guard := none }) (v := ?_) rfl (by kernel_rfl) (by kernel_rfl) (by kernel_rfl) (fun _ _ _ h => h) (Or.inl ⟨by kernel_rfl, ?_⟩) (by assumption) ?_
                  rotate_left
                  · intro w hSw; (try dsimp only at hSw); go_simp; try with_reducible rfl
                  simp only [Act.put, List.setIfInBounds_toArray, List.set_cons_zero, List.set_cons_succ]
                  refine wpAnyH_take (i := 6) (oi := { dst := some 45, op := Go.Op.load 3 (Go.Operand.tmp 44), type := 3, pos := "l07_nfa.go:167", after := #[{ on := 5, ground := Go.Ground.data }], guard := none }) (v := ?_) rfl (by kernel_rfl) (by kernel_rfl) (by kernel_rfl) (fun _ _ _ h => h) (Or.inl ⟨by kernel_rfl, ?_⟩) (by assumption) ?_
                  rotate_left
                  · intro w hSw; (try dsimp only at hSw); go_simp; try with_reducible rfl
                  simp only [Act.put, List.setIfInBounds_toArray, List.set_cons_zero, List.set_cons_succ]
                  refine wpAnyH_take (i := 7) (oi := { dst := some 46, op := Go.Op.indexAddr 23 (Go.Operand.tmp 39) (Go.Operand.tmp 45), type := 0, pos := "l07_nfa.go:167", after := #[{ on := 0, ground := Go.Ground.data }, { on := 6, ground := Go.Ground.data }], guard := none }) (v := ?_) rfl (by kernel_rfl) (by kernel_rfl) (by kernel_rfl) (fun _ _ _ h => h) (Or.inl ⟨by kernel_rfl, ?_⟩) (by assumption) ?_
                  rotate_left
                  · intro w hSw; (try dsimp only at hSw); go_simp; try with_reducible rfl
                  simp only [Act.put, List.setIfInBounds_toArray, List.set_cons_zero, List.set_cons_succ]
                  refine wpAnyH_take (i := 8) (oi := { dst := some 47, op := Go.Op.load 4 (Go.Operand.tmp 46), type := 4, pos := "l07_nfa.go:167", after := #[{ on := 7, ground := Go.Ground.data }], guard := none }) (v := ?_) rfl (by kernel_rfl) (by kernel_rfl) (by kernel_rfl) (fun _ _ _ h => h) (Or.inl ⟨by kernel_rfl, ?_⟩) (by assumption) ?_
                  rotate_left
                  · intro w hSw; (try dsimp only at hSw); go_simp; try with_reducible rfl
                  simp only [Act.put, List.setIfInBounds_toArray, List.set_cons_zero, List.set_cons_succ]
                  refine wpAnyH_take (i := 9) (oi := { dst := some 48, op := Go.Op.move (Go.Operand.tmp 47), type := 4, pos := "l07_nfa.go:167", after := #[{ on := 8, ground := Go.Ground.data }], guard := none }) (v := ?_) rfl (by kernel_rfl) (by kernel_rfl) (by kernel_rfl) (fun _ _ _ h => h) (Or.inl ⟨by kernel_rfl, ?_⟩) (by assumption) ?_
                  rotate_left
                  · intro w hSw; (try dsimp only at hSw); go_simp; try with_reducible rfl
                  simp only [Act.put, List.setIfInBounds_toArray, List.set_cons_zero, List.set_cons_succ]
                  refine wpAnyH_take (i := 10) (oi := { dst := some 49, op := Go.Op.fieldAddr 30 (Go.Operand.tmp 2) 1, type := 0, pos := "l07_nfa.go:167", after := #[{ on := 9, ground := Go.Ground.guard }], guard := some (9, true) }) (v := ?_) rfl (by kernel_rfl) (by kernel_rfl) (by kernel_rfl) (fun _ _ _ h => h) (Or.inl ⟨by kernel_rfl, ?_⟩) (by assumption) ?_
                  rotate_left
                  · intro w hSw; (try dsimp only at hSw); go_simp; try with_reducible rfl
                  simp only [Act.put, List.setIfInBounds_toArray, List.set_cons_zero, List.set_cons_succ]
                  refine wpAnyH_take (i := 11) (oi := { dst := some 50, op := Go.Op.load 28 (Go.Operand.tmp 49), type := 28, pos := "l07_nfa.go:167", after := #[{ on := 10, ground := Go.Ground.data }, { on := 9, ground := Go.Ground.guard }], guard := some (9, true) }) (v := ?_) rfl (by kernel_rfl) (by kernel_rfl) (by kernel_rfl) (fun _ _ _ h => h) (Or.inl ⟨by kernel_rfl, ?_⟩) (by assumption) ?_
                  rotate_left
                  · intro w hSw; (try dsimp only at hSw); go_simp; try with_reducible rfl
                  simp only [Act.put, List.setIfInBounds_toArray, List.set_cons_zero, List.set_cons_succ]
                  refine wpAnyH_take (i := 12) (oi := { dst := some 51, op := Go.Op.move (Go.Operand.tmp 8), type := 3, pos := "l07_nfa.go:167", after := #[{ on := 9, ground := Go.Ground.guard }], guard := some (9, true) }) (v := ?_) rfl (by kernel_rfl) (by kernel_rfl) (by kernel_rfl) (fun _ _ _ h => h) (Or.inl ⟨by kernel_rfl, ?_⟩) (by assumption) ?_
                  rotate_left
                  · intro w hSw; (try dsimp only at hSw); go_simp; try with_reducible rfl
                  simp only [Act.put, List.setIfInBounds_toArray, List.set_cons_zero, List.set_cons_succ]
                  refine wpAnyH_take (i := 13) (oi := { dst := some 52, op := Go.Op.indexAddr 28 (Go.Operand.tmp 50) (Go.Operand.tmp 51), type := 0, pos := "l07_nfa.go:167", after := #[{ on := 11, ground := Go.Ground.data }, { on := 12, ground := Go.Ground.data }, { on := 9, ground := Go.Ground.guard }], guard := some (9, true) }) (v := ?_) rfl (by kernel_rfl) (by kernel_rfl) (by kernel_rfl) (fun _ _ _ h => h) (Or.inl ⟨by kernel_rfl, ?_⟩) (by assumption) ?_
                  rotate_left
                  · intro w hSw; (try dsimp only at hSw); go_simp; try with_reducible rfl
                  simp only [Act.put, List.setIfInBounds_toArray, List.set_cons_zero, List.set_cons_succ]
                  refine wpAnyH_take (i := 14) (oi := { dst := some 53, op := Go.Op.fieldAddr 58 (Go.Operand.tmp 52) 1, type := 0, pos := "l07_nfa.go:167", after := #[{ on := 13, ground := Go.Ground.data }, { on := 9, ground := Go.Ground.guard }], guard := some (9, true) }) (v := ?_) rfl (by kernel_rfl) (by kernel_rfl) (by kernel_rfl) (fun _ _ _ h => h) (Or.inl ⟨by kernel_rfl, ?_⟩) (by assumption) ?_
                  rotate_left
                  · intro w hSw; (try dsimp only at hSw); go_simp; try with_reducible rfl
                  simp only [Act.put, List.setIfInBounds_toArray, List.set_cons_zero, List.set_cons_succ]
                  refine wpAnyH_take (i := 15) (oi := { dst := some 54, op := Go.Op.load 5 (Go.Operand.tmp 53), type := 5, pos := "l07_nfa.go:167", after := #[{ on := 14, ground := Go.Ground.data }, { on := 9, ground := Go.Ground.guard }], guard := some (9, true) }) (v := ?_) rfl (by kernel_rfl) (by kernel_rfl) (by kernel_rfl) (fun _ _ _ h => h) (Or.inl ⟨by kernel_rfl, ?_⟩) (by assumption) ?_
                  rotate_left
                  · intro w hSw; (try dsimp only at hSw); go_simp; try with_reducible rfl
                  simp only [Act.put, List.setIfInBounds_toArray, List.set_cons_zero, List.set_cons_succ]
                  refine wpAnyH_take (i := 16) (oi := { dst := some 55, op := Go.Op.move (Go.Operand.tmp 1), type := 9, pos := "l07_nfa.go:167", after := #[{ on := 9, ground := Go.Ground.guard }], guard := some (9, true) }) (v := ?_) rfl (by kernel_rfl) (by kernel_rfl) (by kernel_rfl) (fun _ _ _ h => h) (Or.inl ⟨by kernel_rfl, ?_⟩) (by assumption) ?_
                  rotate_left
                  · intro w hSw; (try dsimp only at hSw); go_simp; try with_reducible rfl
                  simp only [Act.put, List.setIfInBounds_toArray, List.set_cons_zero, List.set_cons_succ]
                  refine wpAnyH_take (i := 17) (oi := { dst := some 56, op := Go.Op.move (Go.Operand.tmp 6), type := 3, pos := "l07_nfa.go:167", after := #[{ on := 9, ground := Go.Ground.guard }], guard := some (9, true) }) (v := ?_) rfl (by kernel_rfl) (by kernel_rfl) (by kernel_rfl) (fun _ _ _ h => h) (Or.inl ⟨by kernel_rfl, ?_⟩) (by assumption) ?_
                  rotate_left
                  · intro w hSw; (try dsimp only at hSw); go_simp; try with_reducible rfl
                  simp only [Act.put, List.setIfInBounds_toArray, List.set_cons_zero, List.set_cons_succ]
                  refine wpAnyH_take (i := 18) (oi := { dst := some 57, op := Go.Op.index 9 (Go.Operand.tmp 55) (Go.Operand.tmp 56), type := 5, pos := "l07_nfa.go:167", after := #[{ on := 16, ground := Go.Ground.data }, { on := 17, ground := Go.Ground.data }, { on := 9, ground := Go.Ground.guard }], guard := some (9, true) }) (v := ?_) rfl (by kernel_rfl) (by kernel_rfl) (by kernel_rfl) (fun _ _ _ h => h) (Or.inl ⟨by kernel_rfl, ?_⟩) (by assumption) ?_
                  rotate_left
                  · intro w hSw; (try dsimp only at hSw); go_simp; try with_reducible rfl
                  simp only [Act.put, List.setIfInBounds_toArray, List.set_cons_zero, List.set_cons_succ]
                  refine wpAnyH_take (i := 19) (oi := { dst := some 58, op := Go.Op.binOp Go.BinOp.eql 5 (Go.Operand.tmp 54) (Go.Operand.tmp 57) 5, type := 4, pos := "l07_nfa.go:167", after := #[{ on := 15, ground := Go.Ground.data }, { on := 18, ground := Go.Ground.data }, { on := 9, ground := Go.Ground.guard }], guard := some (9, true) }) (v := ?_) rfl (by kernel_rfl) (by kernel_rfl) (by kernel_rfl) (fun _ _ _ h => h) (Or.inl ⟨by kernel_rfl, ?_⟩) (by assumption) ?_
                  rotate_left
                  · intro w hSw; (try dsimp only at hSw); go_simp; try with_reducible rfl
                  simp only [Act.put, List.setIfInBounds_toArray, List.set_cons_zero, List.set_cons_succ]
                  refine wpAnyH_take (i := 20) (oi := { dst := some 59, op := Go.Op.pick (Go.Operand.tmp 48) (Go.Operand.tmp 58) (Go.Operand.const (Go.Value.bool false)), type := 4, pos := "l07_nfa.go:167", after := #[{ on := 9, ground := Go.Ground.data }, { on := 19, ground := Go.Ground.data }], guard := none }) (v := ?_) rfl (by kernel_rfl) (by kernel_rfl) (by kernel_rfl) (fun _ _ _ h => h) (Or.inl ⟨by kernel_rfl, ?_⟩) (by assumption) ?_
                  rotate_left
                  · intro w hSw; (try dsimp only at hSw); go_simp; try with_reducible rfl
                  simp only [Act.put, List.setIfInBounds_toArray, List.set_cons_zero, List.set_cons_succ]
                  refine wpAnyH_done (by kernel_rfl) ?_ _
                  clear hHeld
                  go_wp2
                  go_roundw
                  case rel => exact ⟨y + 1, by go_num, by omega, (HX.out.set1 hz true).congr HNX.out, HKD.out.setCell rfl _⟩
                  case measure => simp [intOf]; omega
                · have hBd : decide (c = (((T[x]'hkT).toNat : Nat) : Int)) = false := decide_eq_false hB
                  have hBb : (c == (((T[x]'hkT).toNat : Nat) : Int)) = false := beq_eq_false_iff_ne.2 hB
                  refine wp_region_held_drew (S := fun w' => (w'.cell? ⟨B, 1, none⟩ = some (.slice (some ⟨b, o, none⟩) n cap)) ∧ (w'.cell? ⟨b, o + y * 3, none⟩ = some (.int .i64 (f : Int)) ∧ w'.cell? ⟨b, o + y * 3 + 1, none⟩ = some (.int .u8 c)) ∧ w'.cell? ⟨g, f, none⟩ = some (.bool true)) (by kernel_rfl) (show (fun w' => (w'.cell? ⟨B, 1, none⟩ = some (.slice (some ⟨b, o, none⟩) n cap)) ∧ (w'.cell? ⟨b, o + y * 3, none⟩ = some (.int .i64 (f : Int)) ∧ w'.cell? ⟨b, o + y * 3 + 1, none⟩ = some (.int .u8 c)) ∧ w'.cell? ⟨g, f, none⟩ = some (.bool true)) wr.drew from ⟨c1, ⟨p0, p1⟩, g0⟩) (fun hHeld => ?_)
                  refine wpAnyH_take (i := 0) (oi := { dst := some 39, op := Go.Op.move (Go.Operand.tmp 5), type := 23, pos := "l07_nfa.go:167", after := #[], guard := none }) (v := ?_) rfl (by kernel_rfl) (by kernel_rfl) (by kernel_rfl) (fun _ _ _ h => h) (Or.inl ⟨by kernel_rfl, ?_⟩) (by assumption) ?_
                  rotate_left
                  · intro w hSw; (try dsimp only at hSw); go_simp; try with_reducible rfl
                  simp only [Act.put, List.setIfInBounds_toArray, List.set_cons_zero, List.set_cons_succ]
                  refine wpAnyH_take (i := 1) (oi := { dst := some 40, op := Go.Op.fieldAddr 30 (Go.Operand.tmp 2) 1, type := 0, pos := "l07_nfa.go:167", after := #[], guard := none }) (v := ?_) rfl (by kernel_rfl) (by kernel_rfl) (by kernel_rfl) (fun _ _ _ h => h) (Or.inl ⟨by kernel_rfl, ?_⟩) (by assumption) ?_
                  rotate_left
                  · intro w hSw; (try dsimp only at hSw); go_simp; try with_reducible rfl
                  simp only [Act.put, List.setIfInBounds_toArray, List.set_cons_zero, List.set_cons_succ]
                  refine wpAnyH_take (i := 2) (oi := { dst := some 41, op := Go.Op.load 28 (Go.Operand.tmp 40), type := 28, pos := "l07_nfa.go:167", after := #[{ on := 1, ground := Go.Ground.data }], guard := none }) (v := ?_) rfl (by kernel_rfl) (by kernel_rfl) (by kernel_rfl) (fun _ _ _ h => h) (Or.inl ⟨by kernel_rfl, ?_⟩) (by assumption) ?_
                  rotate_left
                  · intro w hSw; (try dsimp only at hSw); go_simp; try with_reducible rfl
                  simp only [Act.put, List.setIfInBounds_toArray, List.set_cons_zero, List.set_cons_succ]
                  refine wpAnyH_take (i := 3) (oi := { dst := some 42, op := Go.Op.move (Go.Operand.tmp 8), type := 3, pos := "l07_nfa.go:167", after := #[], guard := none }) (v := ?_) rfl (by kernel_rfl) (by kernel_rfl) (by kernel_rfl) (fun _ _ _ h => h) (Or.inl ⟨by kernel_rfl, ?_⟩) (by assumption) ?_
                  rotate_left
                  · intro w hSw; (try dsimp only at hSw); go_simp; try with_reducible rfl
                  simp only [Act.put, List.setIfInBounds_toArray, List.set_cons_zero, List.set_cons_succ]
                  refine wpAnyH_take (i := 4) (oi := { dst := some 43, op := Go.Op.indexAddr 28 (Go.Operand.tmp 41) (Go.Operand.tmp 42), type := 0, pos := "l07_nfa.go:167", after := #[{ on := 2, ground := Go.Ground.data }, { on := 3, ground := Go.Ground.data }], guard := none }) (v := ?_) rfl (by kernel_rfl) (by kernel_rfl) (by kernel_rfl) (fun _ _ _ h => h) (Or.inl ⟨by kernel_rfl, ?_⟩) (by assumption) ?_
                  rotate_left
                  · intro w hSw; (try dsimp only at hSw); go_simp; try with_reducible rfl
                  simp only [Act.put, List.setIfInBounds_toArray, List.set_cons_zero, List.set_cons_succ]
                  refine wpAnyH_take (i := 5) (oi := { dst := some 44, op := Go.Op.fieldAddr 58 (Go.Operand.tmp 43) 0, type := 0, pos := "l07_nfa.go:167", after := #[{ on := 4, ground := Go.Ground.data }], guard := none }) (v := ?_) rfl (by kernel_rfl) (by kernel_rfl) (by kernel_rfl) (fun _ _ _ h => h) (Or.inl ⟨by kernel_rfl, ?_⟩) (by assumption) ?_
                  rotate_left
                  · intro w hSw; (try dsimp only at hSw); go_simp; try with_reducible rfl
                  simp only [Act.put, List.setIfInBounds_toArray, List.set_cons_zero, List.set_cons_succ]
                  refine wpAnyH_take (i := 6) (oi := { dst := some 45, op := Go.Op.load 3 (Go.Operand.tmp 44), type := 3, pos := "l07_nfa.go:167", after := #[{ on := 5, ground := Go.Ground.data }], guard := none }) (v := ?_) rfl (by kernel_rfl) (by kernel_rfl) (by kernel_rfl) (fun _ _ _ h => h) (Or.inl ⟨by kernel_rfl, ?_⟩) (by assumption) ?_
                  rotate_left
                  · intro w hSw; (try dsimp only at hSw); go_simp; try with_reducible rfl
                  simp only [Act.put, List.setIfInBounds_toArray, List.set_cons_zero, List.set_cons_succ]
                  refine wpAnyH_take (i := 7) (oi := { dst := some 46, op := Go.Op.indexAddr 23 (Go.Operand.tmp 39) (Go.Operand.tmp 45), type := 0, pos := "l07_nfa.go:167", after := #[{ on := 0, ground := Go.Ground.data }, { on := 6, ground := Go.Ground.data }], guard := none }) (v := ?_) rfl (by kernel_rfl) (by kernel_rfl) (by kernel_rfl) (fun _ _ _ h => h) (Or.inl ⟨by kernel_rfl, ?_⟩) (by assumption) ?_
                  rotate_left
                  · intro w hSw; (try dsimp only at hSw); go_simp; try with_reducible rfl
                  simp only [Act.put, List.setIfInBounds_toArray, List.set_cons_zero, List.set_cons_succ]
                  refine wpAnyH_take (i := 8) (oi := { dst := some 47, op := Go.Op.load 4 (Go.Operand.tmp 46), type := 4, pos := "l07_nfa.go:167", after := #[{ on := 7, ground := Go.Ground.data }], guard := none }) (v := ?_) rfl (by kernel_rfl) (by kernel_rfl) (by kernel_rfl) (fun _ _ _ h => h) (Or.inl ⟨by kernel_rfl, ?_⟩) (by assumption) ?_
                  rotate_left
                  · intro w hSw; (try dsimp only at hSw); go_simp; try with_reducible rfl
                  simp only [Act.put, List.setIfInBounds_toArray, List.set_cons_zero, List.set_cons_succ]
                  refine wpAnyH_take (i := 9) (oi := { dst := some 48, op := Go.Op.move (Go.Operand.tmp 47), type := 4, pos := "l07_nfa.go:167", after := #[{ on := 8, ground := Go.Ground.data }], guard := none }) (v := ?_) rfl (by kernel_rfl) (by kernel_rfl) (by kernel_rfl) (fun _ _ _ h => h) (Or.inl ⟨by kernel_rfl, ?_⟩) (by assumption) ?_
                  rotate_left
                  · intro w hSw; (try dsimp only at hSw); go_simp; try with_reducible rfl
                  simp only [Act.put, List.setIfInBounds_toArray, List.set_cons_zero, List.set_cons_succ]
                  refine wpAnyH_take (i := 10) (oi := { dst := some 49, op := Go.Op.fieldAddr 30 (Go.Operand.tmp 2) 1, type := 0, pos := "l07_nfa.go:167", after := #[{ on := 9, ground := Go.Ground.guard }], guard := some (9, true) }) (v := ?_) rfl (by kernel_rfl) (by kernel_rfl) (by kernel_rfl) (fun _ _ _ h => h) (Or.inl ⟨by kernel_rfl, ?_⟩) (by assumption) ?_
                  rotate_left
                  · intro w hSw; (try dsimp only at hSw); go_simp; try with_reducible rfl
                  simp only [Act.put, List.setIfInBounds_toArray, List.set_cons_zero, List.set_cons_succ]
                  refine wpAnyH_take (i := 11) (oi := { dst := some 50, op := Go.Op.load 28 (Go.Operand.tmp 49), type := 28, pos := "l07_nfa.go:167", after := #[{ on := 10, ground := Go.Ground.data }, { on := 9, ground := Go.Ground.guard }], guard := some (9, true) }) (v := ?_) rfl (by kernel_rfl) (by kernel_rfl) (by kernel_rfl) (fun _ _ _ h => h) (Or.inl ⟨by kernel_rfl, ?_⟩) (by assumption) ?_
                  rotate_left
                  · intro w hSw; (try dsimp only at hSw); go_simp; try with_reducible rfl
                  simp only [Act.put, List.setIfInBounds_toArray, List.set_cons_zero, List.set_cons_succ]
                  refine wpAnyH_take (i := 12) (oi := { dst := some 51, op := Go.Op.move (Go.Operand.tmp 8), type := 3, pos := "l07_nfa.go:167", after := #[{ on := 9, ground := Go.Ground.guard }], guard := some (9, true) }) (v := ?_) rfl (by kernel_rfl) (by kernel_rfl) (by kernel_rfl) (fun _ _ _ h => h) (Or.inl ⟨by kernel_rfl, ?_⟩) (by assumption) ?_
                  rotate_left
                  · intro w hSw; (try dsimp only at hSw); go_simp; try with_reducible rfl
                  simp only [Act.put, List.setIfInBounds_toArray, List.set_cons_zero, List.set_cons_succ]
                  refine wpAnyH_take (i := 13) (oi := { dst := some 52, op := Go.Op.indexAddr 28 (Go.Operand.tmp 50) (Go.Operand.tmp 51), type := 0, pos := "l07_nfa.go:167", after := #[{ on := 11, ground := Go.Ground.data }, { on := 12, ground := Go.Ground.data }, { on := 9, ground := Go.Ground.guard }], guard := some (9, true) }) (v := ?_) rfl (by kernel_rfl) (by kernel_rfl) (by kernel_rfl) (fun _ _ _ h => h) (Or.inl ⟨by kernel_rfl, ?_⟩) (by assumption) ?_
                  rotate_left
                  · intro w hSw; (try dsimp only at hSw); go_simp; try with_reducible rfl
                  simp only [Act.put, List.setIfInBounds_toArray, List.set_cons_zero, List.set_cons_succ]
                  refine wpAnyH_take (i := 14) (oi := { dst := some 53, op := Go.Op.fieldAddr 58 (Go.Operand.tmp 52) 1, type := 0, pos := "l07_nfa.go:167", after := #[{ on := 13, ground := Go.Ground.data }, { on := 9, ground := Go.Ground.guard }], guard := some (9, true) }) (v := ?_) rfl (by kernel_rfl) (by kernel_rfl) (by kernel_rfl) (fun _ _ _ h => h) (Or.inl ⟨by kernel_rfl, ?_⟩) (by assumption) ?_
                  rotate_left
                  · intro w hSw; (try dsimp only at hSw); go_simp; try with_reducible rfl
                  simp only [Act.put, List.setIfInBounds_toArray, List.set_cons_zero, List.set_cons_succ]
                  refine wpAnyH_take (i := 15) (oi := { dst := some 54, op := Go.Op.load 5 (Go.Operand.tmp 53), type := 5, pos := "l07_nfa.go:167", after := #[{ on := 14, ground := Go.Ground.data }, { on := 9, ground := Go.Ground.guard }], guard := some (9, true) }) (v := ?_) rfl (by kernel_rfl) (by kernel_rfl) (by kernel_rfl) (fun _ _ _ h => h) (Or.inl ⟨by kernel_rfl, ?_⟩) (by assumption) ?_
                  rotate_left
                  · intro w hSw; (try dsimp only at hSw); go_simp; try with_reducible rfl
                  simp only [Act.put, List.setIfInBounds_toArray, List.set_cons_zero, List.set_cons_succ]
                  refine wpAnyH_take (i := 16) (oi := { dst := some 55, op := Go.Op.move (Go.Operand.tmp 1), type := 9, pos := "l07_nfa.go:167", after := #[{ on := 9, ground := Go.Ground.guard }], guard := some (9, true) }) (v := ?_) rfl (by kernel_rfl) (by kernel_rfl) (by kernel_rfl) (fun _ _ _ h => h) (Or.inl ⟨by kernel_rfl, ?_⟩) (by assumption) ?_
                  rotate_left
                  · intro w hSw; (try dsimp only at hSw); go_simp; try with_reducible rfl
                  simp only [Act.put, List.setIfInBounds_toArray, List.set_cons_zero, List.set_cons_succ]
                  refine wpAnyH_take (i := 17) (oi := { dst := some 56, op := Go.Op.move (Go.Operand.tmp 6), type := 3, pos := "l07_nfa.go:167", after := #[{ on := 9, ground := Go.Ground.guard }], guard := some (9, true) }) (v := ?_) rfl (by kernel_rfl) (by kernel_rfl) (by kernel_rfl) (fun _ _ _ h => h) (Or.inl ⟨by kernel_rfl, ?_⟩) (by assumption) ?_
                  rotate_left
                  · intro w hSw; (try dsimp only at hSw); go_simp; try with_reducible rfl
                  simp only [Act.put, List.setIfInBounds_toArray, List.set_cons_zero, List.set_cons_succ]
                  refine wpAnyH_take (i := 18) (oi := { dst := some 57, op := Go.Op.index 9 (Go.Operand.tmp 55) (Go.Operand.tmp 56), type := 5, pos := "l07_nfa.go:167", after := #[{ on := 16, ground := Go.Ground.data }, { on := 17, ground := Go.Ground.data }, { on := 9, ground := Go.Ground.guard }], guard := some (9, true) }) (v := ?_) rfl (by kernel_rfl) (by kernel_rfl) (by kernel_rfl) (fun _ _ _ h => h) (Or.inl ⟨by kernel_rfl, ?_⟩) (by assumption) ?_
                  rotate_left
                  · intro w hSw; (try dsimp only at hSw); go_simp; try with_reducible rfl
                  simp only [Act.put, List.setIfInBounds_toArray, List.set_cons_zero, List.set_cons_succ]
                  refine wpAnyH_take (i := 19) (oi := { dst := some 58, op := Go.Op.binOp Go.BinOp.eql 5 (Go.Operand.tmp 54) (Go.Operand.tmp 57) 5, type := 4, pos := "l07_nfa.go:167", after := #[{ on := 15, ground := Go.Ground.data }, { on := 18, ground := Go.Ground.data }, { on := 9, ground := Go.Ground.guard }], guard := some (9, true) }) (v := ?_) rfl (by kernel_rfl) (by kernel_rfl) (by kernel_rfl) (fun _ _ _ h => h) (Or.inl ⟨by kernel_rfl, ?_⟩) (by assumption) ?_
                  rotate_left
                  · intro w hSw; (try dsimp only at hSw); go_simp; try with_reducible rfl
                  simp only [Act.put, List.setIfInBounds_toArray, List.set_cons_zero, List.set_cons_succ]
                  refine wpAnyH_take (i := 20) (oi := { dst := some 59, op := Go.Op.pick (Go.Operand.tmp 48) (Go.Operand.tmp 58) (Go.Operand.const (Go.Value.bool false)), type := 4, pos := "l07_nfa.go:167", after := #[{ on := 9, ground := Go.Ground.data }, { on := 19, ground := Go.Ground.data }], guard := none }) (v := ?_) rfl (by kernel_rfl) (by kernel_rfl) (by kernel_rfl) (fun _ _ _ h => h) (Or.inl ⟨by kernel_rfl, ?_⟩) (by assumption) ?_
                  rotate_left
                  · intro w hSw; (try dsimp only at hSw); go_simp; try with_reducible rfl
                  simp only [Act.put, List.setIfInBounds_toArray, List.set_cons_zero, List.set_cons_succ]
                  refine wpAnyH_done (by kernel_rfl) ?_ _
                  clear hHeld
                  go_wp2
                  go_roundw
                  case rel => exact ⟨y + 1, by go_num, by omega, HX.out.congr (fun j _ => by rw [HST.out j]; simp [hBd]), HKD⟩
                  case measure => simp [intOf]; omega
              · subst hv
                refine wp_region_held_drew (S := fun w' => (w'.cell? ⟨B, 1, none⟩ = some (.slice (some ⟨b, o, none⟩) n cap)) ∧ (w'.cell? ⟨b, o + y * 3, none⟩ = some (.int .i64 (f : Int)) ∧ w'.cell? ⟨b, o + y * 3 + 1, none⟩ = some (.int .u8 c)) ∧ w'.cell? ⟨g, f, none⟩ = some (.bool false)) (by kernel_rfl) (show (fun w' => (w'.cell? ⟨B, 1, none⟩ = some (.slice (some ⟨b, o, none⟩) n cap)) ∧ (w'.cell? ⟨b, o + y * 3, none⟩ = some (.int .i64 (f : Int)) ∧ w'.cell? ⟨b, o + y * 3 + 1, none⟩ = some (.int .u8 c)) ∧ w'.cell? ⟨g, f, none⟩ = some (.bool false)) wr.drew from ⟨c1, ⟨p0, p1⟩, g0⟩) (fun hHeld => ?_)
                refine wpAnyH_take (i := 0) (oi := { dst := some 39, op := Go.Op.move (Go.Operand.tmp 5), type := 23, pos := "l07_nfa.go:167", after := #[], guard := none }) (v := ?_) rfl (by kernel_rfl) (by kernel_rfl) (by kernel_rfl) (fun _ _ _ h => h) (Or.inl ⟨by kernel_rfl, ?_⟩) (by assumption) ?_
                rotate_left
                · intro w hSw; (try dsimp only at hSw); go_simp; try with_reducible rfl
                simp only [Act.put, List.setIfInBounds_toArray, List.set_cons_zero, List.set_cons_succ]
                refine wpAnyH_take (i := 1) (oi := { dst := some 40, op := Go.Op.fieldAddr 30 (Go.Operand.tmp 2) 1, type := 0, pos := "l07_nfa.go:167", after := #[], guard := none }) (v := ?_) rfl (by kernel_rfl) (by kernel_rfl) (by kernel_rfl) (fun _ _ _ h => h) (Or.inl ⟨by kernel_rfl, ?_⟩) (by assumption) ?_
                rotate_left
                · intro w hSw; (try dsimp only at hSw); go_simp; try with_reducible rfl
                simp only [Act.put, List.setIfInBounds_toArray, List.set_cons_zero, List.set_cons_succ]
                refine wpAnyH_take (i := 2) (oi := { dst := some 41, op := Go.Op.load 28 (Go.Operand.tmp 40), type := 28, pos := "l07_nfa.go:167", after := #[{ on := 1, ground := Go.Ground.data }], guard := none }) (v := ?_) rfl (by kernel_rfl) (by kernel_rfl) (by kernel_rfl) (fun _ _ _ h => h) (Or.inl ⟨by kernel_rfl, ?_⟩) (by assumption) ?_
                rotate_left
                · intro w hSw; (try dsimp only at hSw); go_simp; try with_reducible rfl
                simp only [Act.put, List.setIfInBounds_toArray, List.set_cons_zero, List.set_cons_succ]
                refine wpAnyH_take (i := 3) (oi := { dst := some 42, op := Go.Op.move (Go.Operand.tmp 8), type := 3, pos := "l07_nfa.go:167", after := #[], guard := none }) (v := ?_) rfl (by kernel_rfl) (by kernel_rfl) (by kernel_rfl) (fun _ _ _ h => h) (Or.inl ⟨by kernel_rfl, ?_⟩) (by assumption) ?_
                rotate_left
                · intro w hSw; (try dsimp only at hSw); go_simp; try with_reducible rfl
                simp only [Act.put, List.setIfInBounds_toArray, List.set_cons_zero, List.set_cons_succ]
                refine wpAnyH_take (i := 4) (oi := { dst := some 43, op := Go.Op.indexAddr 28 (Go.Operand.tmp 41) (Go.Operand.tmp 42), type := 0, pos := "l07_nfa.go:167", after := #[{ on := 2, ground := Go.Ground.data }, { on := 3, ground := Go.Ground.data }], guard := none }) (v := ?_) rfl (by kernel_rfl) (by kernel_rfl) (by kernel_rfl) (fun _ _ _ h => h) (Or.inl ⟨by kernel_rfl, ?_⟩) (by assumption) ?_
                rotate_left
                · intro w hSw; (try dsimp only at hSw); go_simp; try with_reducible rfl
                simp only [Act.put, List.setIfInBounds_toArray, List.set_cons_zero, List.set_cons_succ]
                refine wpAnyH_take (i := 5) (oi := { dst := some 44, op := Go.Op.fieldAddr 58 (Go.Operand.tmp 43) 0, type := 0, pos := "l07_nfa.go:167", after := #[{ on := 4, ground := Go.Ground.data }], guard := none }) (v := ?_) rfl (by kernel_rfl) (by kernel_rfl) (by kernel_rfl) (fun _ _ _ h => h) (Or.inl ⟨by kernel_rfl, ?_⟩) (by assumption) ?_
                rotate_left
                · intro w hSw; (try dsimp only at hSw); go_simp; try with_reducible rfl
                simp only [Act.put, List.setIfInBounds_toArray, List.set_cons_zero, List.set_cons_succ]
                refine wpAnyH_take (i := 6) (oi := { dst := some 45, op := Go.Op.load 3 (Go.Operand.tmp 44), type := 3, pos := "l07_nfa.go:167", after := #[{ on := 5, ground := Go.Ground.data }], guard := none }) (v := ?_) rfl (by kernel_rfl) (by kernel_rfl) (by kernel_rfl) (fun _ _ _ h => h) (Or.inl ⟨by kernel_rfl, ?_⟩) (by assumption) ?_
                rotate_left
                · intro w hSw; (try dsimp only at hSw); go_simp; try with_reducible rfl
                simp only [Act.put, List.setIfInBounds_toArray, List.set_cons_zero, List.set_cons_succ]
                refine wpAnyH_take (i := 7) (oi := { dst := some 46, op := Go.Op.indexAddr 23 (Go.Operand.tmp 39) (Go.Operand.tmp 45), type := 0, pos := "l07_nfa.go:167", after := #[{ on := 0, ground := Go.Ground.data }, { on := 6, ground := Go.Ground.data }], guard := none }) (v := ?_) rfl (by kernel_rfl) (by kernel_rfl) (by kernel_rfl) (fun _ _ _ h => h) (Or.inl ⟨by kernel_rfl, ?_⟩) (by assumption) ?_
                rotate_left
                · intro w hSw; (try dsimp only at hSw); go_simp; try with_reducible rfl
                simp only [Act.put, List.setIfInBounds_toArray, List.set_cons_zero, List.set_cons_succ]
                refine wpAnyH_take (i := 8) (oi := { dst := some 47, op := Go.Op.load 4 (Go.Operand.tmp 46), type := 4, pos := "l07_nfa.go:167", after := #[{ on := 7, ground := Go.Ground.data }], guard := none }) (v := ?_) rfl (by kernel_rfl) (by kernel_rfl) (by kernel_rfl) (fun _ _ _ h => h) (Or.inl ⟨by kernel_rfl, ?_⟩) (by assumption) ?_
                rotate_left
                · intro w hSw; (try dsimp only at hSw); go_simp; try with_reducible rfl
                simp only [Act.put, List.setIfInBounds_toArray, List.set_cons_zero, List.set_cons_succ]
                refine wpAnyH_take (i := 9) (oi := { dst := some 48, op := Go.Op.move (Go.Operand.tmp 47), type := 4, pos := "l07_nfa.go:167", after := #[{ on := 8, ground := Go.Ground.data }], guard := none }) (v := ?_) rfl (by kernel_rfl) (by kernel_rfl) (by kernel_rfl) (fun _ _ _ h => h) (Or.inl ⟨by kernel_rfl, ?_⟩) (by assumption) ?_
                rotate_left
                · intro w hSw; (try dsimp only at hSw); go_simp; try with_reducible rfl
                simp only [Act.put, List.setIfInBounds_toArray, List.set_cons_zero, List.set_cons_succ]
                refine wpAnyH_take (i := 10) (oi := { dst := some 49, op := Go.Op.fieldAddr 30 (Go.Operand.tmp 2) 1, type := 0, pos := "l07_nfa.go:167", after := #[{ on := 9, ground := Go.Ground.guard }], guard := some (9, true) }) (v := undef) rfl (by kernel_rfl) (by kernel_rfl) (by kernel_rfl) (fun _ _ _ h => h) (Or.inr ⟨by kernel_rfl, rfl⟩) (by assumption) ?_
                simp only [Act.put, List.setIfInBounds_toArray, List.set_cons_zero, List.set_cons_succ]
                refine wpAnyH_take (i := 11) (oi := { dst := some 50, op := Go.Op.load 28 (Go.Operand.tmp 49), type := 28, pos := "l07_nfa.go:167", after := #[{ on := 10, ground := Go.Ground.data }, { on := 9, ground := Go.Ground.guard }], guard := some (9, true) }) (v := undef) rfl (by kernel_rfl) (by kernel_rfl) (by kernel_rfl) (fun _ _ _ h => h) (Or.inr ⟨by kernel_rfl, rfl⟩) (by assumption) ?_
                simp only [Act.put, List.setIfInBounds_toArray, List.set_cons_zero, List.set_cons_succ]
                refine wpAnyH_take (i := 12) (oi := { dst := some 51, op := Go.Op.move (Go.Operand.tmp 8), type := 3, pos := "l07_nfa.go:167", after := #[{ on := 9, ground := Go.Ground.guard }], guard := some (9, true) }) (v := undef) rfl (by kernel_rfl) (by kernel_rfl) (by kernel_rfl) (fun _ _ _ h => h) (Or.inr ⟨by kernel_rfl, rfl⟩) (by assumption) ?_
                simp only [Act.put, List.setIfInBounds_toArray, List.set_cons_zero, List.set_cons_succ]
                refine wpAnyH_take (i := 13) (oi := { dst := some 52, op := Go.Op.indexAddr 28 (Go.Operand.tmp 50) (Go.Operand.tmp 51), type := 0, pos := "l07_nfa.go:167", after := #[{ on := 11, ground := Go.Ground.data }, { on := 12, ground := Go.Ground.data }, { on := 9, ground := Go.Ground.guard }], guard := some (9, true) }) (v := undef) rfl (by kernel_rfl) (by kernel_rfl) (by kernel_rfl) (fun _ _ _ h => h) (Or.inr ⟨by kernel_rfl, rfl⟩) (by assumption) ?_
                simp only [Act.put, List.setIfInBounds_toArray, List.set_cons_zero, List.set_cons_succ]
                refine wpAnyH_take (i := 14) (oi := { dst := some 53, op := Go.Op.fieldAddr 58 (Go.Operand.tmp 52) 1, type := 0, pos := "l07_nfa.go:167", after := #[{ on := 13, ground := Go.Ground.data }, { on := 9, ground := Go.Ground.guard }], guard := some (9, true) }) (v := undef) rfl (by kernel_rfl) (by kernel_rfl) (by kernel_rfl) (fun _ _ _ h => h) (Or.inr ⟨by kernel_rfl, rfl⟩) (by assumption) ?_
                simp only [Act.put, List.setIfInBounds_toArray, List.set_cons_zero, List.set_cons_succ]
                refine wpAnyH_take (i := 15) (oi := { dst := some 54, op := Go.Op.load 5 (Go.Operand.tmp 53), type := 5, pos := "l07_nfa.go:167", after := #[{ on := 14, ground := Go.Ground.data }, { on := 9, ground := Go.Ground.guard }], guard := some (9, true) }) (v := undef) rfl (by kernel_rfl) (by kernel_rfl) (by kernel_rfl) (fun _ _ _ h => h) (Or.inr ⟨by kernel_rfl, rfl⟩) (by assumption) ?_
                simp only [Act.put, List.setIfInBounds_toArray, List.set_cons_zero, List.set_cons_succ]
                refine wpAnyH_take (i := 16) (oi := { dst := some 55, op := Go.Op.move (Go.Operand.tmp 1), type := 9, pos := "l07_nfa.go:167", after := #[{ on := 9, ground := Go.Ground.guard }], guard := some (9, true) }) (v := undef) rfl (by kernel_rfl) (by kernel_rfl) (by kernel_rfl) (fun _ _ _ h => h) (Or.inr ⟨by kernel_rfl, rfl⟩) (by assumption) ?_
                simp only [Act.put, List.setIfInBounds_toArray, List.set_cons_zero, List.set_cons_succ]
                refine wpAnyH_take (i := 17) (oi := { dst := some 56, op := Go.Op.move (Go.Operand.tmp 6), type := 3, pos := "l07_nfa.go:167", after := #[{ on := 9, ground := Go.Ground.guard }], guard := some (9, true) }) (v := undef) rfl (by kernel_rfl) (by kernel_rfl) (by kernel_rfl) (fun _ _ _ h => h) (Or.inr ⟨by kernel_rfl, rfl⟩) (by assumption) ?_
                simp only [Act.put, List.setIfInBounds_toArray, List.set_cons_zero, List.set_cons_succ]
                refine wpAnyH_take (i := 18) (oi := { dst := some 57, op := Go.Op.index 9 (Go.Operand.tmp 55) (Go.Operand.tmp 56), type := 5, pos := "l07_nfa.go:167", after := #[{ on := 16, ground := Go.Ground.data }, { on := 17, ground := Go.Ground.data }, { on := 9, ground := Go.Ground.guard }], guard := some (9, true) }) (v := undef) rfl (by kernel_rfl) (by kernel_rfl) (by kernel_rfl) (fun _ _ _ h => h) (Or.inr ⟨by kernel_rfl, rfl⟩) (by assumption) ?_
                simp only [Act.put, List.setIfInBounds_toArray, List.set_cons_zero, List.set_cons_succ]
                refine wpAnyH_take (i := 19) (oi := { dst := some 58, op := Go.Op.binOp Go.BinOp.eql 5 (Go.Operand.tmp 54) (Go.Operand.tmp 57) 5, type := 4, pos := "l07_nfa.go:167", after := #[{ on := 15, ground := Go.Ground.data }, { on := 18, ground := Go.Ground.data }, { on := 9, ground := Go.Ground.guard }], guard := some (9, true) }) (v := undef) rfl (by kernel_rfl) (by kernel_rfl) (by kernel_rfl) (fun _ _ _ h => h) (Or.inr ⟨by kernel_rfl, rfl⟩) (by assumption) ?_
                simp only [Act.put, List.setIfInBounds_toArray, List.set_cons_zero, List.set_cons_succ]
                refine wpAnyH_take (i := 20) (oi := { dst := some 59, op := Go.Op.pick (Go.Operand.tmp 48) (Go.Operand.tmp 58) (Go.Operand.const (Go.Value.bool false)), type := 4, pos := "l07_nfa.go:167", after := #[{ on := 9, ground := Go.Ground.data }, { on := 19, ground := Go.Ground.data }], guard := none }) (v := ?_) rfl (by kernel_rfl) (by kernel_rfl) (by kernel_rfl) (fun _ _ _ h => h) (Or.inl ⟨by kernel_rfl, ?_⟩) (by assumption) ?_
                rotate_left
                · intro w hSw; (try dsimp only at hSw); go_simp; try with_reducible rfl
                simp only [Act.put, List.setIfInBounds_toArray, List.set_cons_zero, List.set_cons_succ]
                refine wpAnyH_done (by kernel_rfl) ?_ _
                clear hHeld
                go_wp2
                go_roundw
                case rel => exact ⟨y + 1, by go_num, by omega, HX.out.congr (fun j _ => by rw [HST.out j]; simp), HKD⟩
                case measure => simp [intOf]; omega
            · obtain rfl : y = n := by omega
              go_wp2
              go_roundw
              case rel => exact ⟨x + 1, D, by go_num, rfl, by omega, by have := HG.out; have := HGD.out; show _ ≤ _; omega, HX.out.congr (fun j _ => HRN.out j), HLQ⟩
              case measure => simp [intOf]; omega
        · obtain rfl : x = k := by omega
          obtain ⟨S, HSS⟩ : ∃ S : Nat → Bool, Hid (S = runL l T x) := ⟨_, rfl⟩
          rw [← HSS.out] at HS
          have HRX : Hid (r = endTo (endM es) S em) := by show _ = _; rw [HRE.out, HSS.out]
          obtain ⟨b2, o2, rfl, hce⟩ : ∃ be oe, eb = some ⟨be, oe, none⟩ ∧ ∀ i, i < em → wr.cell? ⟨be, oe + i, none⟩ = some (.bool (endM es i)) := by
            rcases (HBI.out.below HL.out (by have := HH.out; omega)) with h | ⟨be, oe, h1, _, _, h2⟩
            · have := HJ.out; rw [h] at this; simp at this; omega
            · exact ⟨be, oe, h1, fun i hi => h2 i (by rw [HJ.out]; exact hi)⟩
          have HCE : Hid (∀ i, i < em → wr.cell? ⟨b2, o2 + i, none⟩ = some (.bool (endM es i))) := hce
          have HBF : Hid (Below w.heap.size w wr) := HBW.out.trans (HL.out.mono (by have := HB.out; omega))
          clear hce
          go_wp2
          go_loop [9] (fun i => ∃ y : Nat, i = .int .i64 y ∧ y ≤ em ∧ Hid (endTo (endM es) S y = false)) (fun i => em - (intOf i).toNat)
          case atStart => exact ⟨0, rfl, by omega, rfl⟩
          case round =>
            obtain ⟨y, rfl, hy, HE⟩ := hrel
            by_cases hye : y < em
            · have hy1 : (y : Int) < (em : Int) := by omega
              have hy0 : (0 : Int) ≤ (y : Int) := by omega
              obtain ⟨p, HP⟩ : ∃ p, Hid (p = S y) := ⟨_, rfl⟩
              obtain ⟨q, HQ⟩ : ∃ p, Hid (p = endM es y) := ⟨_, rfl⟩
              have s0 := HS.out.get hye
              have s1 := HCE.out y hye
              rw [← HP.out] at s0
              rw [← HQ.out] at s1
              have HST : Hid (endTo (endM es) S (y + 1) = (p && q)) := by show _ = _; rw [endTo_succ, HE.out, HP.out, HQ.out, Bool.false_or]
              have HYES : Hid ((p && q) = true → r = true) := fun h => by rw [HRX.out]; exact endTo_yes hye (by rw [← HP.out, ← HQ.out]; exact h)
              rcases Bool.eq_false_or_eq_true p with hp | hp
              · subst hp
                rcases Bool.eq_false_or_eq_true q with hq | hq
                · subst hq
                  go_wp2
                  go_ret
                  exact ⟨by rw [HYES.out rfl]; rfl, HBF⟩
                · subst hq
                  go_wp2
                  go_roundw
                  case rel => exact ⟨y + 1, by go_num, by omega, HST⟩
                  case measure => simp [intOf]; omega
              · subst hp
                go_wp2
                go_roundw
                case rel => exact ⟨y + 1, by go_num, by omega, HST⟩
                case measure => simp [intOf]; omega
            · obtain rfl : y = em := by omega
              go_wp2
              go_ret
              exact ⟨by rw [HRX.out, HE.out]; rfl, HBF⟩
    · have hg : (12 : Int) < (k : Int) := by omega
      have HRF : Hid (r = false) := by show _ = _; rw [HRR.out]; simp [h12]
      go_wp2
      go_ret
      exact ⟨by rw [HRF.out]; rfl, HBE1⟩
  · subst hu
    have HRF : Hid (r = false) := by show _ = _; rw [HR.out]; unfold takesN; rw [← HU.out]; rfl
    go_wp2
    go_ret
    exact ⟨by rw [HRF.out]; rfl, HBE1⟩
end Go.Proofs.Ytdhkkabcgehjpaa
