/-
  What one owns: impl.Owned, spec.Owned.
-/
import Derived.Test.YtigojleieihdoaaDoorOwn
import Derived.Test.YtigojleieihdoaaDoorGOk
import Derived.Test.YtigojleieihdoaaDoorGOkS
import Derived.Test.YtigojleieihdoaaDoorNxS
namespace Go.Proofs.YtigojleieihdoaaDoor
open Go.RowKit

/-- the vertices of one, as far as place k -/
def ownTo (wk nw : Int) (k : Nat) : List Int := ((List.range k).filter (fun (v : Nat) => decide (ownOf (v : Int) nw = wk))).map (fun (v : Nat) => (v : Int))
theorem ownTo_step (wk nw : Int) (k : Nat) : ownTo wk nw (k + 1) = ownTo wk nw k ++ (if ownOf (k : Int) nw = wk then [(k : Int)] else []) := by
  unfold ownTo
  rw [List.range_succ, List.filter_append, List.map_append]
  by_cases h : ownOf (k : Int) nw = wk <;> simp [h]
theorem ownTo_len (wk nw : Int) (k : Nat) : (ownTo wk nw k).length ≤ k := by
  unfold ownTo
  rw [List.length_map]
  exact Nat.le_trans (List.length_filter_le _ _) (by simp)
theorem ownTo_mem {wk nw v : Int} {k : Nat} : v ∈ ownTo wk nw k ↔ (0 ≤ v ∧ v < (k : Int)) ∧ ownOf v nw = wk := by
  unfold ownTo
  simp only [List.mem_map, List.mem_filter, List.mem_range, decide_eq_true_eq]
  constructor
  · rintro ⟨x, ⟨h1, h2⟩, rfl⟩
    exact ⟨⟨by omega, by omega⟩, h2⟩
  · rintro ⟨⟨h1, h2⟩, h3⟩
    exact ⟨v.toNat, ⟨by omega, by rw [Int.toNat_of_nonneg h1]; exact h3⟩, by omega⟩
/-- what one owns of a graph -/
def ownL (s : Int) (l : List Ed) (wk nw : Int) : List Int := if okG s l = true then ownTo wk nw s.toNat else []
theorem ownL_yes {s : Int} {l : List Ed} (wk nw : Int) (h : okG s l = true) : ownL s l wk nw = ownTo wk nw s.toNat := by unfold ownL; rw [if_pos h]
theorem ownL_no {s : Int} {l : List Ed} (wk nw : Int) (h : okG s l = false) : ownL s l wk nw = [] := by unfold ownL; rw [if_neg (by rw [h]; decide)]
theorem ownL_len (s : Int) (l : List Ed) (wk nw : Int) : (ownL s l wk nw).length ≤ 12 := by
  unfold ownL
  split
  · rename_i h
    have := okG_size h
    exact Nat.le_trans (ownTo_len _ _ _) (by omega)
  · simp
theorem owns_after {B e s n : Nat} {w w' : World} {v : Value} {xs : List Value} (ho : w.ownsRow B e s v n xs) (hb : Below w.heap.size w w') : w'.ownsRow B e s v n xs :=
  owns_upto (M := w.heap.size) ho (fun k hk => (ho.lt k hk).2) (fun k _ h => hb.block k h)

set_option maxHeartbeats 4000000 in
set_option maxRecDepth 100000 in
theorem owned_any (lo hi : Nat) (s : Int) (a : Option Addr) (n cap : Nat) (l : List Ed) (wk nw : Int) (w : World) (ht : FT w) (ha : EdgesIn lo hi w a l) (hh : hi ≤ w.heap.size) (hn : l.length = n) (hm : n ≤ 1048576) :
    Calls Tryd.prog 11 #[gv s a n cap, .int .i64 wk, .int .i64 nw] w fun e w' => ∃ (a' : Option Addr) (n' cap' : Nat), e = .returned (.slice a' n' cap') ∧ Hid ((ownL s l wk nw).length = n') ∧ Hid (RowOwn w.heap.size w'.heap.size w' a' (ownL s l wk nw)) ∧ Hid (Below w.heap.size w w') := by
  have HN : Hid (l.length = n) := hn
  have HA : Hid (EdgesIn lo hi w a l) := ha
  have HH : Hid (hi ≤ w.heap.size) := hh
  have HT : Hid (FT w) := ht
  clear ht
  obtain ⟨i0, hi0, hz0, hz1, hz2⟩ := info_parts Tryd.info3
  clear ha hh hn
  obtain ⟨r, HR⟩ : ∃ r, Hid (r = okG s l) := ⟨_, rfl⟩
  obtain ⟨B, HB⟩ : ∃ B, Hid (B = w.heap.size) := ⟨_, rfl⟩
  obtain ⟨W0, HW0⟩ : ∃ W0, Hid (W0 = (w.alloc (.cells #[.int .i64 s, .slice a n cap] 26))) := ⟨_, rfl⟩
  have HK0 : Hid (Blk W0 B 2 (fun i => if i = 0 then .int .i64 s else .slice a n cap)) := by rw [HW0.out]; exact blk_two w B HB.out _ _ _
  have HBW : Hid (Below w.heap.size w W0) := by rw [HW0.out]; exact below1 w _
  have HSW : Hid (W0.heap.size = B + 1) := by rw [HW0.out, HB.out]; show _ = _; simp
  obtain ⟨W1, HW1⟩ : ∃ W1, Hid (W1 = (W0.alloc (.cells #[] 3))) := ⟨_, rfl⟩
  have HS1 : Hid (W1.heap.size = B + 2) := by rw [HW1.out]; show _ = _; simp [HSW.out]
  have HO1 : Hid (W1.ownsRow (B + 1) 3 1 (.slice (some ⟨B + 1, 0, none⟩) 0 0) 0 []) := by
    have := World.ownsRow_made W0 (base := B + 1) (e := 3) (size := 1) #[] 0 (by rw [HSW.out]; exact Nat.le_refl _) (Nat.zero_le _) rfl
    have hz : (W0.alloc (.cells #[] 3)).ownsRow (B + 1) 3 1 (.slice (some ⟨B + 1, 0, none⟩) 0 0) 0 [] := by simpa [HSW.out] using this
    rw [HW1.out]
    exact hz
  have HL1 : Hid (Below (B + 1) W0 W1) := by rw [HW1.out]; exact (Below.refl _ _).alloc (by rw [HSW.out]; exact Nat.le_refl _) _
  have HBW1 : Hid (Below w.heap.size w W1) := HBW.out.trans (HL1.out.mono (by rw [HB.out]; omega))
  have hk1 : Blk W1 B 2 (fun i => if i = 0 then .int .i64 s else .slice a n cap) := HK0.out.of_block (HL1.out.block _ (by omega))
  obtain ⟨c0, c1⟩ := blk_pair_cells hk1
  clear hk1
  go_enter Tryd.func11, Tryd.ntmps11
  go_wp2_with fail
  rw [← HB.out, ← HW0.out, ← HW1.out]
  try rw [HSW.out]
  refine (graphOk_any lo hi s a n cap l r W1 (HA.out.below HBW1.out HH.out) (Nat.le_trans HH.out HBW1.out.size) HN.out hm HR.out).mono ?_
  rintro e w2 ⟨rfl, B2⟩
  have HL2 : Hid (Below (B + 1) W0 w2) := HL1.out.trans (B2.out.mono (by have := HS1.out; omega))
  have HO2 : Hid (w2.ownsRow (B + 1) 3 1 (.slice (some ⟨B + 1, 0, none⟩) 0 0) 0 []) := owns_after HO1.out B2.out
  have HBW2 : Hid (Below w.heap.size w w2) := HBW.out.trans (HL2.out.mono (by rw [HB.out]; omega))
  clear c0 c1 B2 HO1 HL1 HBW1 HW0 HW1 HS1
  have hk2 : Blk w2 B 2 (fun i => if i = 0 then .int .i64 s else .slice a n cap) := HK0.out.of_block (HL2.out.block _ (by omega))
  obtain ⟨c0, c1⟩ := blk_pair_cells hk2
  clear hk2
  rcases Bool.eq_false_or_eq_true r with h | h
  · subst h
    have HOK : Hid (okG s l = true) := HR.out.symm
    have HLE : Hid (ownL s l wk nw = ownTo wk nw s.toNat) := ownL_yes wk nw HOK.out
    have hs12 : s ≤ 12 := (okG_size HOK.out).2.1
    have hs1 : 1 ≤ s := (okG_size HOK.out).1
    clear HR HOK
    go_wp2
    clear c0 c1
    go_loopw [16, 7] (fun i v wr => ∃ k m : Nat, i = .int .i64 k ∧ (k : Int) ≤ s ∧ Hid (wr.ownsRow (B + 1) 3 1 v m (rowCells (ownTo wk nw k))) ∧ Hid ((ownTo wk nw k).length = m) ∧ Hid (Below (B + 1) W0 wr)) (fun i _ _ => s.toNat - (intOf i).toNat)
    case atStart => exact ⟨0, 0, rfl, by omega, HO2, rfl, HL2⟩
    case round =>
      obtain ⟨k, m, rfl, hk, HO, HM, HL⟩ := hrel
      have hmk : m ≤ k := by rw [← HM.out]; exact ownTo_len wk nw k
      have HKR : Hid (Blk wr B 2 (fun i => if i = 0 then .int .i64 s else .slice a n cap)) := HK0.out.of_block (HL.out.block _ (by omega))
      obtain ⟨c0, c1⟩ := blk_pair_cells HKR.out
      have hszr : B + 1 ≤ wr.heap.size := by have := HL.out.size; have := HSW.out; omega
      by_cases hlt : (k : Int) < s
      · obtain ⟨z, HZ⟩ : ∃ z, Hid (z = ownOf (k : Int) nw) := ⟨_, rfl⟩
        have HST : Hid (ownTo wk nw (k + 1) = ownTo wk nw k ++ (if z = wk then [(k : Int)] else [])) := by show _ = _; rw [ownTo_step, HZ.out]
        go_wp2_with fail
        refine (ownerOf_any (k : Int) nw z wr (HT.out.below (HBW.out.trans (HL.out.mono (by rw [HB.out]; omega)))) HZ.out).mono ?_
        rintro e w3 ⟨rfl, B3⟩
        have HLa : Hid (Below (B + 1) W0 w3) := HL.out.trans (B3.out.mono hszr)
        have HOa : Hid (w3.ownsRow (B + 1) 3 1 _ m (rowCells (ownTo wk nw k))) := owns_after HO.out B3.out
        have hsz3 : B + 1 ≤ w3.heap.size := by have := B3.out.size; omega
        clear B3 c0 c1 HKR
        by_cases hz : z = wk
        · subst hz
          have HST2 : Hid (ownTo z nw (k + 1) = ownTo z nw k ++ [(k : Int)]) := by show _ = _; rw [HST.out]; simp
          clear HST
          have hown := HOa.out.alloc (.cells #[.int .i64 (k : Int)] 3)
          go_wp2_with (at_builtin; refine wpList_append_lies _ rfl (.tmp 24) (.tmp 26) 28 rfl (B + 1) 3 i0 (.int .i64 0) 1 8 Tryd.underlying28 hi0 hz0 hz1 hz2 rfl (by decide) _ m (rowCells (ownTo z nw k)) rfl hown ⟨w3.heap.size, 0, none⟩ 1 1 [.int .i64 (k : Int)] rfl rfl ?q1 (by simp [Value.oneCell']) (by decide) (by unfold maxLen; omega) (by omega) (by simp; omega) _ rfl ?_)
          case q1 =>
            have := cell_one_new' w3 (.int .i64 (k : Int)) 3
            simpa using this
          intro g2 cap2 w4 hown2 hgrow2 _ _
          have HL4 : Hid (Below (B + 1) W0 w4) := (HLa.out.alloc hsz3 _).grown hgrow2 (by simp; omega) (fun k hk => (HO.out.lt k hk).1)
          have HO4 : Hid (w4.ownsRow (B + 1) 3 1 (.slice (some ⟨g2, 0, none⟩) (m + 1) cap2) (m + 1) (rowCells (ownTo z nw (k + 1)))) := by rw [HST2.out, rowCells_snoc]; exact hown2
          clear hown hown2 hgrow2
          go_wp2
          go_roundw
          case rel => exact ⟨k + 1, m + 1, by go_num, by omega, HO4, by show _ = _; rw [HST2.out, List.length_append, HM.out]; rfl, HL4⟩
          case measure => simp [intOf]; omega
        · have HST2 : Hid (ownTo wk nw (k + 1) = ownTo wk nw k) := by show _ = _; rw [HST.out]; simp [hz]
          have hd : (z == wk) = false := by simpa using hz
          have hd2 : decide (z = wk) = false := decide_eq_false hz
          clear HST
          go_wp2
          go_roundw
          case rel => exact ⟨k + 1, m, by go_num, by omega, by rw [HST2.out]; exact HOa, by show _ = _; rw [HST2.out, HM.out], HLa⟩
          case measure => simp [intOf]; omega
      · obtain rfl : s = (k : Int) := by omega
        have HE : Hid (ownL (k : Int) l wk nw = ownTo wk nw k) := by show _ = _; rw [HLE.out, Int.toNat_natCast]
        obtain ⟨a3, cap3, hv3, HR3⟩ := rowOwn_of HO.out HM.out
        have HR3' : Hid (RowOwn (B + 1) wr.heap.size wr a3 (ownTo wk nw k)) := HR3
        have HLW : Hid (Below w.heap.size w wr) := HBW.out.trans (HL.out.mono (by rw [HB.out]; omega))
        subst hv3
        clear HR3
        go_wp2
        go_ret
        have q1 : Hid ((ownL (k : Int) l wk nw).length = m) := by rw [HE.out]; exact HM
        have q2 : Hid (RowOwn w.heap.size wr.heap.size wr a3 (ownL (k : Int) l wk nw)) := by rw [HE.out]; exact HR3'.out.wide (by rw [← HB.out]; omega) (Nat.le_refl _)
        first | exact ⟨a3, m, cap3, rfl, q1, q2, HLW⟩ | exact ⟨a3, m, ⟨cap3, rfl⟩, q1, q2, HLW⟩
  · subst h
    have HE : Hid (ownL s l wk nw = []) := ownL_no wk nw HR.out.symm
    clear HR
    go_wp2
    go_ret
    have q1 : Hid ((ownL s l wk nw).length = 0) := by rw [HE.out]; rfl
    have q2 : Hid (RowOwn w.heap.size w2.heap.size w2 (some ⟨B + 1, 0, none⟩) (ownL s l wk nw)) := by rw [HE.out]; exact .inl rfl
    first | exact ⟨some ⟨B + 1, 0, none⟩, 0, 0, rfl, q1, q2, HBW2⟩ | exact ⟨some ⟨B + 1, 0, none⟩, 0, ⟨0, rfl⟩, q1, q2, HBW2⟩

set_option maxHeartbeats 4000000 in
set_option maxRecDepth 100000 in
theorem specOwned_any (lo hi : Nat) (s : Int) (a : Option Addr) (n cap : Nat) (l : List Ed) (wk nw : Int) (w : World) (ha : EdgesIn lo hi w a l) (hh : hi ≤ w.heap.size) (hn : l.length = n) (hm : n ≤ 1048576) :
    Calls Tryd.prog 21 #[gv s a n cap, .int .i64 wk, .int .i64 nw] w fun e w' => ∃ (a' : Option Addr) (n' cap' : Nat), e = .returned (.slice a' n' cap') ∧ Hid ((ownL s l wk nw).length = n') ∧ Hid (RowOwn w.heap.size w'.heap.size w' a' (ownL s l wk nw)) ∧ Hid (Below w.heap.size w w') := by
  have HN : Hid (l.length = n) := hn
  have HA : Hid (EdgesIn lo hi w a l) := ha
  have HH : Hid (hi ≤ w.heap.size) := hh
  obtain ⟨i0, hi0, hz0, hz1, hz2⟩ := info_parts Tryd.info3
  clear ha hh hn
  obtain ⟨r, HR⟩ : ∃ r, Hid (r = okG s l) := ⟨_, rfl⟩
  obtain ⟨B, HB⟩ : ∃ B, Hid (B = w.heap.size) := ⟨_, rfl⟩
  obtain ⟨W0, HW0⟩ : ∃ W0, Hid (W0 = (w.alloc (.cells #[.int .i64 s, .slice a n cap] 26))) := ⟨_, rfl⟩
  have HK0 : Hid (Blk W0 B 2 (fun i => if i = 0 then .int .i64 s else .slice a n cap)) := by rw [HW0.out]; exact blk_two w B HB.out _ _ _
  have HBW : Hid (Below w.heap.size w W0) := by rw [HW0.out]; exact below1 w _
  have HSW : Hid (W0.heap.size = B + 1) := by rw [HW0.out, HB.out]; show _ = _; simp
  obtain ⟨W1, HW1⟩ : ∃ W1, Hid (W1 = (W0.alloc (.cells #[] 3))) := ⟨_, rfl⟩
  have HS1 : Hid (W1.heap.size = B + 2) := by rw [HW1.out]; show _ = _; simp [HSW.out]
  have HO1 : Hid (W1.ownsRow (B + 1) 3 1 (.slice (some ⟨B + 1, 0, none⟩) 0 0) 0 []) := by
    have := World.ownsRow_made W0 (base := B + 1) (e := 3) (size := 1) #[] 0 (by rw [HSW.out]; exact Nat.le_refl _) (Nat.zero_le _) rfl
    have hz : (W0.alloc (.cells #[] 3)).ownsRow (B + 1) 3 1 (.slice (some ⟨B + 1, 0, none⟩) 0 0) 0 [] := by simpa [HSW.out] using this
    rw [HW1.out]
    exact hz
  have HL1 : Hid (Below (B + 1) W0 W1) := by rw [HW1.out]; exact (Below.refl _ _).alloc (by rw [HSW.out]; exact Nat.le_refl _) _
  have HBW1 : Hid (Below w.heap.size w W1) := HBW.out.trans (HL1.out.mono (by rw [HB.out]; omega))
  have hk1 : Blk W1 B 2 (fun i => if i = 0 then .int .i64 s else .slice a n cap) := HK0.out.of_block (HL1.out.block _ (by omega))
  obtain ⟨c0, c1⟩ := blk_pair_cells hk1
  clear hk1
  go_enter Tryd.func21, Tryd.ntmps21
  go_wp2_with fail
  rw [← HB.out, ← HW0.out, ← HW1.out]
  try rw [HSW.out]
  refine (specGOk_any lo hi s a n cap l r W1 (HA.out.below HBW1.out HH.out) (Nat.le_trans HH.out HBW1.out.size) HN.out hm HR.out).mono ?_
  rintro e w2 ⟨rfl, B2⟩
  have HL2 : Hid (Below (B + 1) W0 w2) := HL1.out.trans (B2.out.mono (by have := HS1.out; omega))
  have HO2 : Hid (w2.ownsRow (B + 1) 3 1 (.slice (some ⟨B + 1, 0, none⟩) 0 0) 0 []) := owns_after HO1.out B2.out
  have HBW2 : Hid (Below w.heap.size w w2) := HBW.out.trans (HL2.out.mono (by rw [HB.out]; omega))
  clear c0 c1 B2 HO1 HL1 HBW1 HW0 HW1 HS1
  have hk2 : Blk w2 B 2 (fun i => if i = 0 then .int .i64 s else .slice a n cap) := HK0.out.of_block (HL2.out.block _ (by omega))
  obtain ⟨c0, c1⟩ := blk_pair_cells hk2
  clear hk2
  rcases Bool.eq_false_or_eq_true r with h | h
  · subst h
    have HOK : Hid (okG s l = true) := HR.out.symm
    have HLE : Hid (ownL s l wk nw = ownTo wk nw s.toNat) := ownL_yes wk nw HOK.out
    have hs12 : s ≤ 12 := (okG_size HOK.out).2.1
    have hs1 : 1 ≤ s := (okG_size HOK.out).1
    clear HR HOK
    go_wp2
    clear c0 c1
    go_loopw [8, 7] (fun i v wr => ∃ k m : Nat, i = .int .i64 k ∧ (k : Int) ≤ s ∧ Hid (wr.ownsRow (B + 1) 3 1 v m (rowCells (ownTo wk nw k))) ∧ Hid ((ownTo wk nw k).length = m) ∧ Hid (Below (B + 1) W0 wr)) (fun i _ _ => s.toNat - (intOf i).toNat)
    case atStart => exact ⟨0, 0, rfl, by omega, HO2, rfl, HL2⟩
    case round =>
      obtain ⟨k, m, rfl, hk, HO, HM, HL⟩ := hrel
      have hmk : m ≤ k := by rw [← HM.out]; exact ownTo_len wk nw k
      have HKR : Hid (Blk wr B 2 (fun i => if i = 0 then .int .i64 s else .slice a n cap)) := HK0.out.of_block (HL.out.block _ (by omega))
      obtain ⟨c0, c1⟩ := blk_pair_cells HKR.out
      have hszr : B + 1 ≤ wr.heap.size := by have := HL.out.size; have := HSW.out; omega
      by_cases hlt : (k : Int) < s
      · obtain ⟨z, HZ⟩ : ∃ z, Hid (z = ownOf (k : Int) nw) := ⟨_, rfl⟩
        have HST : Hid (ownTo wk nw (k + 1) = ownTo wk nw k ++ (if z = wk then [(k : Int)] else [])) := by show _ = _; rw [ownTo_step, HZ.out]
        go_wp2_with fail
        refine (specOwner_any (k : Int) nw z wr  HZ.out).mono ?_
        rintro e w3 ⟨rfl, B3⟩
        have HLa : Hid (Below (B + 1) W0 w3) := HL.out.trans (B3.out.mono hszr)
        have HOa : Hid (w3.ownsRow (B + 1) 3 1 _ m (rowCells (ownTo wk nw k))) := owns_after HO.out B3.out
        have hsz3 : B + 1 ≤ w3.heap.size := by have := B3.out.size; omega
        clear B3 c0 c1 HKR
        by_cases hz : z = wk
        · subst hz
          have HST2 : Hid (ownTo z nw (k + 1) = ownTo z nw k ++ [(k : Int)]) := by show _ = _; rw [HST.out]; simp
          clear HST
          have hown := HOa.out.alloc (.cells #[.int .i64 (k : Int)] 3)
          go_wp2_with (at_builtin; refine wpList_append_lies _ rfl (.tmp 25) (.tmp 27) 28 rfl (B + 1) 3 i0 (.int .i64 0) 1 8 Tryd.underlying28 hi0 hz0 hz1 hz2 rfl (by decide) _ m (rowCells (ownTo z nw k)) rfl hown ⟨w3.heap.size, 0, none⟩ 1 1 [.int .i64 (k : Int)] rfl rfl ?q1 (by simp [Value.oneCell']) (by decide) (by unfold maxLen; omega) (by omega) (by simp; omega) _ rfl ?_)
          case q1 =>
            have := cell_one_new' w3 (.int .i64 (k : Int)) 3
            simpa using this
          intro g2 cap2 w4 hown2 hgrow2 _ _
          have HL4 : Hid (Below (B + 1) W0 w4) := (HLa.out.alloc hsz3 _).grown hgrow2 (by simp; omega) (fun k hk => (HO.out.lt k hk).1)
          have HO4 : Hid (w4.ownsRow (B + 1) 3 1 (.slice (some ⟨g2, 0, none⟩) (m + 1) cap2) (m + 1) (rowCells (ownTo z nw (k + 1)))) := by rw [HST2.out, rowCells_snoc]; exact hown2
          clear hown hown2 hgrow2
          go_wp2
          go_roundw
          case rel => exact ⟨k + 1, m + 1, by go_num, by omega, HO4, by show _ = _; rw [HST2.out, List.length_append, HM.out]; rfl, HL4⟩
          case measure => simp [intOf]; omega
        · have HST2 : Hid (ownTo wk nw (k + 1) = ownTo wk nw k) := by show _ = _; rw [HST.out]; simp [hz]
          have hd : (z == wk) = false := by simpa using hz
          have hd2 : decide (z = wk) = false := decide_eq_false hz
          clear HST
          go_wp2
          go_roundw
          case rel => exact ⟨k + 1, m, by go_num, by omega, by rw [HST2.out]; exact HOa, by show _ = _; rw [HST2.out, HM.out], HLa⟩
          case measure => simp [intOf]; omega
      · obtain rfl : s = (k : Int) := by omega
        have HE : Hid (ownL (k : Int) l wk nw = ownTo wk nw k) := by show _ = _; rw [HLE.out, Int.toNat_natCast]
        obtain ⟨a3, cap3, hv3, HR3⟩ := rowOwn_of HO.out HM.out
        have HR3' : Hid (RowOwn (B + 1) wr.heap.size wr a3 (ownTo wk nw k)) := HR3
        have HLW : Hid (Below w.heap.size w wr) := HBW.out.trans (HL.out.mono (by rw [HB.out]; omega))
        subst hv3
        clear HR3
        go_wp2
        go_ret
        have q1 : Hid ((ownL (k : Int) l wk nw).length = m) := by rw [HE.out]; exact HM
        have q2 : Hid (RowOwn w.heap.size wr.heap.size wr a3 (ownL (k : Int) l wk nw)) := by rw [HE.out]; exact HR3'.out.wide (by rw [← HB.out]; omega) (Nat.le_refl _)
        first | exact ⟨a3, m, cap3, rfl, q1, q2, HLW⟩ | exact ⟨a3, m, ⟨cap3, rfl⟩, q1, q2, HLW⟩
  · subst h
    have HE : Hid (ownL s l wk nw = []) := ownL_no wk nw HR.out.symm
    clear HR
    go_wp2
    go_ret
    have q1 : Hid ((ownL s l wk nw).length = 0) := by rw [HE.out]; rfl
    have q2 : Hid (RowOwn w.heap.size w2.heap.size w2 (some ⟨B + 1, 0, none⟩) (ownL s l wk nw)) := by rw [HE.out]; exact .inl rfl
    first | exact ⟨some ⟨B + 1, 0, none⟩, 0, 0, rfl, q1, q2, HBW2⟩ | exact ⟨some ⟨B + 1, 0, none⟩, 0, ⟨0, rfl⟩, q1, q2, HBW2⟩

end Go.Proofs.YtigojleieihdoaaDoor
