/-
  Twelve drawn numbers: spec.DrawPlaces.
-/
import Derived.Test.YtigojleieihdoaaDoorDRow
namespace Go.Proofs.YtigojleieihdoaaDoor
open Go.RowKit

set_option maxHeartbeats 1000000 in
set_option maxRecDepth 100000 in
theorem drawPlaces_any (ao : Option Addr) (n cap : Nat) (w : World) (hn : n ≤ 1048576) (hc : CodeIn w ao n) :
    Calls Tryd.prog 10 #[.slice ao n cap] w fun e w' => ∃ (g cg : Nat) (z0 z1 z2 : Int), e = .returned (.slice (some ⟨g, 0, none⟩) 12 cg) ∧ Hid ((0 ≤ z0 ∧ z0 < 10000) ∧ (0 ≤ z1 ∧ z1 < 10000) ∧ (0 ≤ z2 ∧ z2 < 10000)) ∧ Hid (w'.cell? ⟨g, 0, none⟩ = some (.int .i64 z0) ∧ w'.cell? ⟨g, 1, none⟩ = some (.int .i64 z1) ∧ w'.cell? ⟨g, 2, none⟩ = some (.int .i64 z2)) ∧ Hid (Below w.heap.size w w') := by
  obtain ⟨i0, hi0, hz0, hz1, hz2⟩ := info_parts Tryd.info3
  have HC : Hid (CodeIn w ao n) := hc
  clear hc
  go_enter Tryd.func10, Tryd.ntmps10
  go_wp2_with fail
  refine (new_any w ao n cap hn HC.out).mono ?_
  rintro e w1 ⟨rfl, hc1, hb1⟩
  obtain ⟨p, HP⟩ : ∃ p, Hid (p = w.heap.size) := ⟨_, rfl⟩
  rw [← HP.out] at hc1
  have HB1 : Hid (Below p w w1) := by rw [HP.out]; exact hb1
  have HC1 : Hid (Cur p ao n cap w1) := hc1
  rw [← HP.out]
  clear hc1 hb1
  go_wp2_with fail
  refine (byte_cur w1 p n cap ao HC1.out).mono ?_
  rintro e w2 ⟨x, rfl, _, _, hc2, hk2⟩
  have HC2 : Hid (CurL p ao n cap w2) := ⟨hc2, by rw [HP.out]; exact cur_start HC.out⟩
  have HPW : Hid (p < w2.heap.size) := by obtain ⟨i, h, hcc⟩ := hc2; exact hcc.lt
  have HB2 : Hid (Below p w w2) := HB1.out.trans (hk2.to_below (Nat.le_refl _) (by have := HB1.out.size; rw [HP.out]; exact this))
  clear hc2 hk2
  go_wp2
  go_loopw [4, 5] (fun v i wr => ∃ (j : Nat) (r : List Int), i = .int .i64 j ∧ j ≤ 12 ∧ Hid (wr.ownsRow w2.heap.size 3 1 v j (rowCells r)) ∧ Hid (r.length = j ∧ ∀ y ∈ r, 0 ≤ y ∧ y < 10000) ∧ Hid (CurL p ao n cap wr) ∧ Hid (Below p w wr) ∧ Hid (w2.heap.size ≤ wr.heap.size)) (fun _ i _ => 12 - (intOf i).toNat)
  case atStart => exact ⟨0, [], rfl, by omega, World.ownsRow_made w2 #[] 0 (Nat.le_refl _) (Nat.zero_le _) rfl, ⟨rfl, fun y hy => by simp at hy⟩, HC2.out.below ((Below.refl w2.heap.size w2).alloc (Nat.le_refl _) _) HPW.out, HB2.out.alloc (Nat.le_of_lt HPW.out) _, by show _ ≤ _; simp⟩
  case round =>
    obtain ⟨j, r, rfl, hj, HOW, HRL, HCU, HBL, HSZ⟩ := hrel
    by_cases hlt : j < 12
    · have hlt1 : (j : Int) < 12 := by omega
      go_wp2_with fail
      refine (HCU.out.draw 10000 (by omega) (by omega)).mono ?_
      rintro e w3 ⟨y, rfl, hy0, hy1, HC3, HK3⟩
      have HOW3 : Hid (w3.ownsRow w2.heap.size 3 1 _ j (rowCells r)) := HK3.out.owns HOW.out HPW.out
      have HB3 : Hid (Below p w w3) := HBL.out.trans (HK3.out.to_below (Nat.le_refl _) (by have := HPW.out; have := HSZ.out; omega))
      have HS3 : Hid (w2.heap.size ≤ w3.heap.size) := Nat.le_trans HSZ.out HK3.out.size
      have hown3 := HOW3.out
      clear HK3 HOW HCU HBL HSZ
      go_wp2_with (at_builtin; refine wpList_append_lies _ rfl (.tmp 15) (.tmp 18) 28 rfl w2.heap.size 3 i0 (.int .i64 0) 1 8 Tryd.underlying28 hi0 hz0 hz1 hz2 rfl (by decide) _ j (rowCells r) rfl (hown3.alloc _) ⟨w3.heap.size, 0, none⟩ 1 1 [.int .i64 y] rfl rfl (cell_one_new _ _ _) (by simp [Value.oneCell']) (by decide) (by unfold maxLen; omega) (by omega) (by have := HS3.out; simp; omega) _ rfl ?_; intro g5 cap5 w5 hown5 hgrow5 hloc5 _)
      go_roundw
      case rel =>
        have hs3 := HS3.out
        have hb5 : Below w2.heap.size w3 w5 := (((Below.refl _ _).alloc hs3 _)).grown hgrow5 (by simp; omega) (fun q hq => (HOW3.out.lt q hq).1)
        refine ⟨j + 1, r ++ [y], by go_num, by omega, row_snoc hown5, ⟨by rw [List.length_append, HRL.out.1]; rfl, fun z hz => ?_⟩, HC3.out.below hb5 HPW.out, HB3.out.trans (hb5.mono (Nat.le_of_lt HPW.out)), Nat.le_trans hs3 hb5.size⟩
        rcases List.mem_append.1 hz with hz | hz
        · exact HRL.out.2 z hz
        · have : z = y := by simpa using hz
          omega
      case measure => simp [intOf]; omega
    · obtain rfl : j = 12 := by omega
      obtain ⟨ra, rc, rfl, hro⟩ := rowOwn_of HOW.out HRL.out.1
      go_wp2
      go_ret
      have hl := HRL.out.1
      rcases hro with h | ⟨b, rfl, _, _, hb⟩
      · rw [h] at hl; simp at hl
      · have v : ∀ i, i < 12 → 0 ≤ r.getD i 0 ∧ r.getD i 0 < 10000 := fun i hi => by
          have e : r.getD i 0 = r[i] := by simp [List.getD, show i < r.length by omega]
          rw [e]; exact HRL.out.2 _ (List.getElem_mem _)
        refine ⟨b, rc, r.getD 0 0, r.getD 1 0, r.getD 2 0, rfl, ⟨v 0 (by omega), v 1 (by omega), v 2 (by omega)⟩, ⟨hb.cell (by omega), hb.cell (by omega), hb.cell (by omega)⟩, ?_⟩
        rw [← HP.out]; exact HBL.out
end Go.Proofs.YtigojleieihdoaaDoor
