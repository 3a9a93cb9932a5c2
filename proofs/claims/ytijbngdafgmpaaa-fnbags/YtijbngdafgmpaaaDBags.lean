/-
  Two drawn bags: spec.DrawBags.
-/
import Derived.Test.YtijbngdafgmpaaaDBag
namespace Go.Proofs.Ytijbngdafgmpaaa
open Go.RowKit

set_option maxHeartbeats 1000000 in
set_option maxRecDepth 100000 in
theorem drawBags_any (ao : Option Addr) (n cap : Nat) (w : World) (hn : n ≤ 1048576) (hc : CodeIn w ao n) :
    Calls Try.prog 17 #[.slice ao n cap] w fun e w' => ∃ (a : Option Addr) (m cp : Nat) (L : List It) (a' : Option Addr) (m' cp' : Nat) (L' : List It), e = .returned (.tuple #[.agg #[.slice a m cp], .agg #[.slice a' m' cp']]) ∧ Hid (L.length = m ∧ Drn 2 7 L ∧ L'.length = m' ∧ Drn 2 7 L') ∧ Hid (BagIn w.heap.size w'.heap.size w' a L) ∧ Hid (BagIn w.heap.size w'.heap.size w' a' L') ∧ Hid (Below w.heap.size w w') := by
  have HC : Hid (CodeIn w ao n) := hc
  obtain ⟨B, HB⟩ : ∃ B, Hid (B = w.heap.size) := ⟨_, rfl⟩
  clear hc
  have HO0 : Hid (One ((w.alloc (.cells #[.slice none 0 0] 26)).alloc (.cells #[.slice none 0 0] 26)) B (.slice none 0 0) ∧ One ((w.alloc (.cells #[.slice none 0 0] 26)).alloc (.cells #[.slice none 0 0] 26)) (B + 1) (.slice none 0 0)) :=
    ⟨(One.new w B HB.out _).alloc _, One.new _ (B + 1) (by rw [HB.out]; simp) _⟩
  go_enter Try.func17, Try.ntmps17
  go_wp2_with fail
  refine (new_any _ ao n cap hn (HC.out.below (below2 w _ _))).mono ?_
  rintro e w1 ⟨rfl, hc1, hb1⟩
  obtain ⟨p, HP⟩ : ∃ p, Hid (p = w.heap.size + 1 + 1) := ⟨_, rfl⟩
  simp only [World.size_alloc] at hc1 hb1 ⊢
  rw [← HP.out] at hc1 hb1
  rw [← HP.out, ← HB.out]
  have HC1 : Hid (CurL p ao n cap w1) := by
    refine ⟨hc1, ?_⟩
    rcases HC.out with h | ⟨b, off, e, h1, _⟩
    · exact .inl h
    · exact .inr ⟨b, off, e, by rw [HP.out]; omega⟩
  have HB1 : Hid (Below w.heap.size w w1) := (below2 w _ _).trans (hb1.mono (by rw [HP.out]; omega))
  have hp : B + 1 < p := by rw [HP.out, HB.out]; omega
  have HOB1 : Hid (One w1 B (.slice none 0 0)) := HO0.out.1.block (hb1.block _ (by omega))
  have HOC1 : Hid (One w1 (B + 1) (.slice none 0 0)) := HO0.out.2.block (hb1.block _ (by omega))
  have HPW : Hid (p < w1.heap.size) := by obtain ⟨i, h, hcc⟩ := hc1; exact hcc.lt
  clear hc1 hb1 HO0
  go_wp2_with fail
  refine (l03Draw_any p ao n cap 2 w1 (by omega) HC1.out).mono ?_
  rintro e w2 ⟨a, m, cp, L, rfl, HL, HBG, HC2, HK2⟩
  have hs12 : w1.heap.size ≤ w2.heap.size := HK2.out.size
  have HOB2 : Hid (One w2 B (.slice none 0 0)) := HK2.out.one HOB1.out (by omega)
  have HOC2 : Hid (One w2 (B + 1) (.slice none 0 0)) := HK2.out.one HOC1.out (by omega)
  have HB2 : Hid (Below w.heap.size w w2) := HB1.out.trans (HK2.out.to_below (by have := HB.out; omega) HB1.out.size)
  obtain ⟨X, HX⟩ : ∃ X, Hid (X = w2.heap.size) := ⟨_, rfl⟩
  obtain ⟨w3, HW3⟩ : ∃ w3, Hid (w3 = w2.alloc (.cells #[.slice a m cp] 26)) := ⟨_, rfl⟩
  have HOX : Hid (One w3 X (.slice a m cp)) := by rw [HW3.out]; exact One.new w2 X HX.out _
  have HOB3 : Hid (One w3 B (.slice none 0 0)) := by rw [HW3.out]; exact HOB2.out.alloc _
  have HOC3 : Hid (One w3 (B + 1) (.slice none 0 0)) := by rw [HW3.out]; exact HOC2.out.alloc _
  have HBG3 : Hid (BagIn w1.heap.size w2.heap.size w3 a L) := by rw [HW3.out]; exact HBG.out.below (below1' w2 _) (Nat.le_refl _)
  have HC3 : Hid (CurL p ao n cap w3) := by rw [HW3.out]; exact HC2.out.below (below1' w2 _) (by have := HPW.out; omega)
  have HB3 : Hid (Below w.heap.size w w3) := by rw [HW3.out]; exact HB2.out.alloc HB2.out.size _
  have hs3 : w3.heap.size = w2.heap.size + 1 := by rw [HW3.out]; simp
  go_wp2_with fail
  rw [← HW3.out, ← HX.out]
  have x3 : w3.cell? ⟨X, 0, none⟩ = some (.slice a m cp) := HOX.out.blk.cell (i := 0) (by omega)
  have HDR : Hid (Calls Try.prog 51 #[.pointer (some ⟨p, 0, none⟩), .int .i64 2] w3.drew fun e w' => ∃ (a' : Option Addr) (m' cp' : Nat) (L' : List It), e = .returned (.agg #[.slice a' m' cp']) ∧ Hid (L'.length = m' ∧ Drn 2 7 L') ∧ Hid (BagIn w3.heap.size w'.heap.size w' a' L') ∧ Hid (One w' B (.slice none 0 0)) ∧ Hid (One w' (B + 1) (.slice none 0 0)) ∧ Hid (BagIn w1.heap.size w2.heap.size w' a L) ∧ Hid (Below w.heap.size w w') ∧ Hid (w3.heap.size ≤ w'.heap.size) ∧ w'.cell? ⟨X, 0, none⟩ = some (.slice a m cp) ∧ (w'.cell? ⟨B, 0, none⟩ = some (.slice none 0 0) ∧ w'.frozen? ⟨B, 0, none⟩ = false ∧ w'.cell? ⟨B + 1, 0, none⟩ = some (.slice none 0 0) ∧ w'.frozen? ⟨B + 1, 0, none⟩ = false)) := by
    have hcd : CurL p ao n cap w3.drew := HC3.out.below ((Below.refl w3.heap.size w3).drew) (by have := HPW.out; omega)
    refine (l03Draw_any p ao n cap 2 w3.drew (by omega) hcd).mono ?_
    rintro e w' ⟨a', m', cp', L', h1, h2, h3, h4, h5⟩
    have hk' : KeptBut p w3 w' := ⟨h5.out.os, h5.out.tape, h5.out.output, h5.out.size, h5.out.block⟩
    have hpw := HPW.out
    have o1 := hk'.one HOB3.out (show B ≠ p by omega)
    have o2 := hk'.one HOC3.out (show B + 1 ≠ p by omega)
    have o3 := hk'.one HOX.out (show X ≠ p by rw [HX.out]; omega)
    exact ⟨a', m', cp', L', h1, h2, h3, o1, o2, HBG3.out.keptBut hk' (by omega) (by omega), HB3.out.trans (hk'.to_below (by have := HB.out; omega) HB3.out.size), hk'.size, o3.blk.cell (i := 0) (by omega), o1.blk.cell (i := 0) (by omega), o1.blk.frozen 0, o2.blk.cell (i := 0) (by omega), o2.blk.frozen 0⟩
  refine wp_region_held_drew (S := fun _ => True) (by kernel_rfl) trivial (fun hHeld => ?_)
  refine wpAnyH_take (i := 1) (oi := _) (v := ?_) rfl (by kernel_rfl) (by kernel_rfl) (by kernel_rfl) (fun _ _ _ h => h) (Or.inl ⟨by rfl, ?_⟩) (by assumption) ?_
  rotate_left
  · intro w hSw; (try dsimp only at hSw); go_simp; try with_reducible rfl
  simp only [Act.put]
  refine wpAnyH_ready (rs := [0, 2]) (by kernel_rfl) (by simp) ?_
  refine AllReadyH.cons rfl (fun K hK => ?_) ?_
  · go_simp
    refine hK.out _ _ trivial (fun hHeld => ?_)
    clear hK K
    refine wpAnyH_ready (rs := [2]) (by kernel_rfl) (by simp) ?_
    refine AllReadyH.cons rfl (fun K hK => ?_) ?_
    · go_simp
      go_wp2_with (go_at_call 51; refine HDR.out.mono ?_; rintro e w4 ⟨a', m', cp', L', rfl, HL4, HBG4, HOB4, HOC4, HBL4, HB4, HS4, hx4, hr1, hf1, hr2, hf2⟩)
      refine hK.out _ _ trivial (fun hHeld => ?_)
      clear hK K
      refine wpAnyH_ready (rs := [3]) (by kernel_rfl) (by simp) ?_
      refine AllReadyH.cons rfl (fun K hK => ?_) ?_
      · go_simp
        refine hK.out _ _ trivial (fun hHeld => ?_)
        clear hK K
        have ob5 : One (w4.setCell ⟨B, 0, none⟩ (.slice a m cp)) (B + 1) (.slice none 0 0) := HOC4.out.block (Below.heap_setCell _ _ _ _ (by simp))
        have hr5 := ob5.blk.cell (i := 0) (by omega)
        have hf5 := ob5.blk.frozen 0
        refine wpAnyH_ready (rs := [4]) (by kernel_rfl) (by simp) ?_
        refine AllReadyH.cons rfl (fun K hK => ?_) ?_
        · go_simp
          refine hK.out _ _ trivial (fun hHeld => ?_)
          clear hK K
          refine wpAnyH_done (by kernel_rfl) ?_ _
          go_wp2
          have oa : One ((w4.setCell ⟨B, 0, none⟩ (.slice a m cp)).setCell ⟨B + 1, 0, none⟩ (.slice a' m' cp')) B (.slice a m cp) := (HOB4.out.set _).block (Below.heap_setCell _ _ _ _ (by simp))
          have ob : One ((w4.setCell ⟨B, 0, none⟩ (.slice a m cp)).setCell ⟨B + 1, 0, none⟩ (.slice a' m' cp')) (B + 1) (.slice a' m' cp') := ob5.set _
          have za := oa.blk.cell (i := 0) (by omega)
          have zb := ob.blk.cell (i := 0) (by omega)
          refine bodyPost_ret (v := .tuple #[.agg #[.slice a m cp], .agg #[.slice a' m' cp']]) (by simp [results, Try.results17, go_sem, za, zb]) rfl ?_
          have hbw := HB.out
          have hs4 := HS4.out
          have hpw := HPW.out
          refine ⟨a, m, cp, L, a', m', cp', L', rfl, ⟨HL.out.1, HL.out.2, HL4.out.1, HL4.out.2⟩, ?_, ?_, (HB4.out.setCell (by simp; omega) _).setCell (by simp; omega) _⟩
          · have h1 := bag_one_set HBL4.out HOB4.out (.slice a m cp)
            have h2 := bag_one_set h1 ob5 (.slice a' m' cp')
            exact h2.wide (by omega) (by simp; omega)
          · have h1 := bag_one_set HBG4.out HOB4.out (.slice a m cp)
            have h2 := bag_one_set h1 ob5 (.slice a' m' cp')
            exact h2.wide (by omega) (by simp)
        exact AllReadyH.nil
      exact AllReadyH.nil
    exact AllReadyH.nil
  refine AllReadyH.cons rfl (fun K hK => ?_) ?_
  · go_simp
    go_wp2_with (go_at_call 51; refine HDR.out.mono ?_; rintro e w4 ⟨a', m', cp', L', rfl, HL4, HBG4, HOB4, HOC4, HBL4, HB4, HS4, hx4, hr1, hf1, hr2, hf2⟩)
    refine hK.out _ _ trivial (fun hHeld => ?_)
    clear hK K
    refine wpAnyH_ready (rs := [0]) (by kernel_rfl) (by simp) ?_
    refine AllReadyH.cons rfl (fun K hK => ?_) ?_
    · go_simp
      refine hK.out _ _ trivial (fun hHeld => ?_)
      clear hK K
      refine wpAnyH_ready (rs := [3]) (by kernel_rfl) (by simp) ?_
      refine AllReadyH.cons rfl (fun K hK => ?_) ?_
      · go_simp
        refine hK.out _ _ trivial (fun hHeld => ?_)
        clear hK K
        have ob5 : One (w4.setCell ⟨B, 0, none⟩ (.slice a m cp)) (B + 1) (.slice none 0 0) := HOC4.out.block (Below.heap_setCell _ _ _ _ (by simp))
        have hr5 := ob5.blk.cell (i := 0) (by omega)
        have hf5 := ob5.blk.frozen 0
        refine wpAnyH_ready (rs := [4]) (by kernel_rfl) (by simp) ?_
        refine AllReadyH.cons rfl (fun K hK => ?_) ?_
        · go_simp
          refine hK.out _ _ trivial (fun hHeld => ?_)
          clear hK K
          refine wpAnyH_done (by kernel_rfl) ?_ _
          go_wp2
          have oa : One ((w4.setCell ⟨B, 0, none⟩ (.slice a m cp)).setCell ⟨B + 1, 0, none⟩ (.slice a' m' cp')) B (.slice a m cp) := (HOB4.out.set _).block (Below.heap_setCell _ _ _ _ (by simp))
          have ob : One ((w4.setCell ⟨B, 0, none⟩ (.slice a m cp)).setCell ⟨B + 1, 0, none⟩ (.slice a' m' cp')) (B + 1) (.slice a' m' cp') := ob5.set _
          have za := oa.blk.cell (i := 0) (by omega)
          have zb := ob.blk.cell (i := 0) (by omega)
          refine bodyPost_ret (v := .tuple #[.agg #[.slice a m cp], .agg #[.slice a' m' cp']]) (by simp [results, Try.results17, go_sem, za, zb]) rfl ?_
          have hbw := HB.out
          have hs4 := HS4.out
          have hpw := HPW.out
          refine ⟨a, m, cp, L, a', m', cp', L', rfl, ⟨HL.out.1, HL.out.2, HL4.out.1, HL4.out.2⟩, ?_, ?_, (HB4.out.setCell (by simp; omega) _).setCell (by simp; omega) _⟩
          · have h1 := bag_one_set HBL4.out HOB4.out (.slice a m cp)
            have h2 := bag_one_set h1 ob5 (.slice a' m' cp')
            exact h2.wide (by omega) (by simp; omega)
          · have h1 := bag_one_set HBG4.out HOB4.out (.slice a m cp)
            have h2 := bag_one_set h1 ob5 (.slice a' m' cp')
            exact h2.wide (by omega) (by simp)
        exact AllReadyH.nil
      exact AllReadyH.nil
    exact AllReadyH.nil
  exact AllReadyH.nil
end Go.Proofs.Ytijbngdafgmpaaa
