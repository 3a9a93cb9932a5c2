/-
  Drawn bags and their texts: spec.DrawBagOk, DrawBagText, DrawReadBag.
-/
import Derived.Test.YtelikebpddhncaaBAny
import Derived.Test.YtelikebpddhncaaTxtS
import Derived.Test.YtelikebpddhncaaSpo
import Derived.Test.YtelikebpddhncaaBig
namespace Go.Proofs.Ytelikebpddhncaa
open Go.RowKit

set_option maxHeartbeats 2000000 in
theorem drawBagOk_any (w : World) (n cap : Nat) (ao : Option Addr) (hn : n ≤ 1048576) (hc : CodeIn w ao n) :
    Calls Try.prog 53 #[.slice ao n cap] w fun e w' => ∃ (a : Option Addr) (m c : Nat) (L : List It), e = .returned (.agg #[.slice a m c]) ∧ Hid (L.length = m ∧ m ≤ 14 ∧ ∀ i, i < m → (at' L i).1.length ≤ 4) ∧ Hid (BagIn w.heap.size w'.heap.size w' a L) ∧ Hid (Below w.heap.size w w') := by
  obtain ⟨B, HB⟩ : ∃ B, Hid (w.heap.size = B) := ⟨_, rfl⟩
  have HC : Hid (CodeIn w ao n) := hc
  clear hc
  go_enter Try.func53, Try.ntmps53
  go_wp2_with fail
  rw [HB.out]
  generalize hW : World.alloc _ _ = W
  have HC1 : Hid (CodeIn W ao n) := by show CodeIn _ _ _; rw [← hW]; exact HC.out.below (below1 w _)
  have HB1 : Hid (Below B w W) := by show Below _ _ _; rw [← hW, ← HB.out]; exact below1 w _
  have HR1 : Hid (One W B (.slice none 0 0)) := by show One _ _ _; rw [← hW]; exact One.new w B HB.out.symm _
  clear hW
  refine (new_any W ao n cap hn HC1.out).mono ?_
  rintro e w1 ⟨rfl, hc1, hb1⟩
  obtain ⟨p, HP⟩ : ∃ p, Hid (p = W.heap.size) := ⟨_, rfl⟩
  have HCU : Hid (CurL p ao n cap w1) := by rw [HP.out]; exact ⟨hc1, cur_start HC1.out⟩
  have HPB : Hid (B < p) := by show B < p; rw [HP.out]; exact HR1.out.lt
  have HR2 : Hid (One w1 B (.slice none 0 0)) := HR1.out.below hb1 HR1.out.lt
  have HB2 : Hid (Below B w w1) := HB1.out.trans (hb1.mono (by have := HPB.out; have := HP.out; omega))
  rw [← HP.out]
  clear hc1 hb1 HR1 HB1 HC1
  go_wp2_with fail
  refine (HCU.out.draw 4 (by omega) (by omega)).mono ?_
  rintro e w2 ⟨x, rfl, hx0, hx1, HC2, HK2⟩
  obtain ⟨W0, rfl⟩ : ∃ W0 : Nat, x = (W0 : Int) := ⟨x.toNat, by omega⟩
  have HR3 : Hid (One w2 B (.slice none 0 0)) := HR2.out.keptBut HK2.out (by have := HPB.out; omega)
  have HB3 : Hid (Below B w w2) := HB2.out.trans (HK2.out.to_below (Nat.le_of_lt HPB.out) (Nat.le_of_lt HR2.out.lt))
  clear HCU HR2 HB2
  go_wp2_with fail
  refine (l03Any_any w2 p n cap W0 ao (by omega) HC2.out).mono ?_
  rintro e w4 ⟨a, m, c, L, rfl, HL, HG, HC4, HK4⟩
  have HR4 : Hid (One w4 B (.slice none 0 0)) := HR3.out.keptBut HK4.out (by have := HPB.out; omega)
  have HB4 : Hid (Below B w w4) := HB3.out.trans (HK4.out.to_below (Nat.le_of_lt HPB.out) (Nat.le_of_lt HR3.out.lt))
  have HSZ : Hid (B < w2.heap.size) := HR3.out.lt
  have r0 := HR4.out.cell
  have rf0 := HR4.out.frozen
  go_wp2
  refine bodyPost_ret (v := .agg #[.slice a m c]) (by simp [results, Try.results53, go_sem, r0]) rfl ?_
  refine ⟨a, m, c, L, rfl, HL, ?_, ?_⟩
  · have h1 := bag_one_set HG.out HR4.out (.slice a m c)
    show BagIn _ _ _ _ _
    exact bagIn_wide h1 (by have := HB.out; have := HSZ.out; omega) (by simp)
  · show Below _ _ _
    rw [HB.out]
    exact HB4.out.setCell (p := ⟨B, 0, none⟩) (Nat.le_refl _) _
set_option maxHeartbeats 1000000 in
theorem drawBagText_any (w : World) (n cap : Nat) (ao : Option Addr) (hn : n ≤ 1048576) (hc : CodeIn w ao n) :
    Calls Try.prog 15 #[.slice ao n cap] w fun e w' => ∃ (a : Option Addr) (m c : Nat) (L : List It), e = .returned (.agg #[.slice a m c]) ∧ Hid (L.length = m ∧ m ≤ 14 ∧ ∀ i, i < m → (at' L i).1.length ≤ 4) ∧ Hid (BagIn w.heap.size w'.heap.size w' a L) ∧ Hid (Below w.heap.size w w') := by
  obtain ⟨B, HB⟩ : ∃ B, Hid (w.heap.size = B) := ⟨_, rfl⟩
  have HC : Hid (CodeIn w ao n) := hc
  clear hc
  go_enter Try.func15, Try.ntmps15
  go_wp2_with fail
  rw [HB.out]
  generalize hW : World.alloc _ _ = W
  have HC1 : Hid (CodeIn W ao n) := by show CodeIn _ _ _; rw [← hW]; exact HC.out.below (below1 w _)
  have HB1 : Hid (Below B w W) := by show Below _ _ _; rw [← hW, ← HB.out]; exact below1 w _
  have HR1 : Hid (One W B (.slice none 0 0)) := by show One _ _ _; rw [← hW]; exact One.new w B HB.out.symm _
  clear hW
  refine (drawBagOk_any W n cap ao hn HC1.out).mono ?_
  rintro e w4 ⟨a, m, c, L, rfl, HL, HG, HB2⟩
  have HR4 : Hid (One w4 B (.slice none 0 0)) := HR1.out.below HB2.out HR1.out.lt
  have HB4 : Hid (Below B w w4) := HB1.out.trans (HB2.out.mono (Nat.le_of_lt HR1.out.lt))
  have HSZ : Hid (B < W.heap.size) := HR1.out.lt
  have r0 := HR4.out.cell
  have rf0 := HR4.out.frozen
  go_wp2
  refine bodyPost_ret (v := .agg #[.slice a m c]) (by simp [results, Try.results15, go_sem, r0]) rfl ?_
  refine ⟨a, m, c, L, rfl, HL, ?_, ?_⟩
  · have h1 := bag_one_set HG.out HR4.out (.slice a m c)
    show BagIn _ _ _ _ _
    exact bagIn_wide h1 (by have := HB.out; have := HSZ.out; omega) (by simp)
  · show Below _ _ _
    rw [HB.out]
    exact HB4.out.setCell (p := ⟨B, 0, none⟩) (Nat.le_refl _) _
theorem txtOf_size (L : List It) (h : L.length ≤ 14) : (txtOf L).size ≤ 1000 := by
  have e : (txtOf L).size = (if okBag L = true then txtTo L L.length else []).length := size_of_list rfl
  rw [e]
  split
  · rename_i h1
    have := txt_le h1 L.length (Nat.le_refl _)
    omega
  · simp
set_option maxHeartbeats 1000000 in
theorem drawReadBag_any (w : World) (n cap : Nat) (ao : Option Addr) (hn : n ≤ 1048576) (hc : CodeIn w ao n) :
    Calls Try.prog 18 #[.slice ao n cap] w fun e w' => ∃ t : ByteArray, e = .returned (.string t) ∧ Hid (t.size ≤ 1001) ∧ Hid (Below w.heap.size w w') := by
  have HC : Hid (CodeIn w ao n) := hc
  clear hc
  go_enter Try.func18, Try.ntmps18
  go_wp2_with fail
  refine (new_any w ao n cap hn HC.out).mono ?_
  rintro e w1 ⟨rfl, hc1, hb1⟩
  obtain ⟨p, HP⟩ : ∃ p, Hid (p = w.heap.size) := ⟨_, rfl⟩
  have HCU : Hid (CurL p ao n cap w1) := by rw [HP.out]; exact ⟨hc1, cur_start HC.out⟩
  have HB1 : Hid (Below w.heap.size w w1) := hb1
  rw [← HP.out]
  clear hc1 hb1
  go_wp2_with fail
  refine (HCU.out.draw 3 (by omega) (by omega)).mono ?_
  rintro e w2 ⟨k, rfl, hk0, hk1, HC2, HK2⟩
  go_wp2_with fail
  refine (HC2.out.draw 4 (by omega) (by omega)).mono ?_
  rintro e w2' ⟨x, rfl, hx0, hx1, HC2', HK2'⟩
  obtain ⟨W0, rfl⟩ : ∃ W0 : Nat, x = (W0 : Int) := ⟨x.toNat, by omega⟩
  go_wp2_with fail
  refine (l03Any_any w2' p n cap W0 ao (by omega) HC2'.out).mono ?_
  rintro e w3 ⟨a, nL, cL, L, rfl, HL, HE, HC3, HK3⟩
  go_wp2_with fail
  refine (specText_any _ _ a nL cL L w3 HE.out (Nat.le_refl _) HL.out.1 (by have := HL.out.2.1; omega) (fun i hi => by have := HL.out.2.2 i hi; omega)).mono ?_
  rintro e w4 ⟨t, ok, rfl, HT, HB4⟩
  have HTS : Hid (t.size ≤ 1000) := by show _ ≤ _; rw [HT.out.2]; exact txtOf_size L (by have := HL.out; omega)
  have HC4 : Hid (CurL p ao n cap w4) := HC3.out.below HB4.out HC3.out.lt
  have HK4 : Hid (KeptBut p w1 w4) := (((HK2.out.trans HK2'.out).trans HK3.out).below HB4.out)
  have HBW : Hid (Below w.heap.size w w4) := HB1.out.trans (HK4.out.to_below (by rw [HP.out]; exact Nat.le_refl _) HB1.out.size)
  have hsz : w.heap.size ≤ w4.heap.size := HBW.out.size
  clear HK2 HK2' HK3 HB4 HE HC2 HC2' HC3 HT HCU HB1 HC
  by_cases e0 : k = 0
  · subst e0
    go_wp2_with fail
    refine (spoilt_any w4 p n cap ao t (by have := HTS.out; omega) HC4.out).mono ?_
    rintro e w5 ⟨t5, rfl, HT5, HC5, HK5⟩
    go_wp2
    go_ret
    exact ⟨t5, rfl, by show _ ≤ _; have := HT5.out; have := HTS.out; omega, HBW.out.trans (HK5.out.to_below (by rw [HP.out]; exact Nat.le_refl _) hsz)⟩
  · have hd : (k == 0) = false := by simpa using e0
    have hd' : decide (k = 0) = false := decide_eq_false e0
    go_wp2
    go_ret
    exact ⟨t, rfl, by show _ ≤ _; have := HTS.out; omega, HBW⟩
end Go.Proofs.Ytelikebpddhncaa
