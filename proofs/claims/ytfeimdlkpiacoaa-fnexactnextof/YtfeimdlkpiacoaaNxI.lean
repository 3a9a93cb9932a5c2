/-
  impl.NextOf, spec.NextOf.
-/
import Derived.Test.YtfeimdlkpiacoaaNxM
import Derived.Test.YtfeimdlkpiacoaaNxT
namespace Go.Proofs.Ytfeimdlkpiacoaa
open Go.RowKit


set_option maxHeartbeats 4000000 in
set_option maxRecDepth 100000 in
theorem nextOf_any (lo hi : Nat) (s : Int) (a : Option Addr) (n cap : Nat) (l : List Ed) (f b8 : Int) (w : World) (ha : EdgesIn lo hi w a l) (hh : hi ≤ w.heap.size) (hn : l.length = n) (hm : n ≤ 1048576) :
    Calls Try.prog 20 #[gv s a n cap, .int .i64 f, .int .u8 b8] w fun e w' => ∃ (a' : Option Addr) (n' cap' : Nat), e = .returned (.slice a' n' cap') ∧ Hid ((nextE l f b8).length = n') ∧ Hid (RowOwn w.heap.size w'.heap.size w' a' (nextE l f b8)) ∧ Hid (Below w.heap.size w w') := by
  have HN : Hid (l.length = n) := hn
  have HA : Hid (EdgesIn lo hi w a l) := ha
  have HH : Hid (hi ≤ w.heap.size) := hh
  obtain ⟨i0, hi0, hz0, hz1, hz2⟩ := info_parts Try.info3
  clear ha hh hn
  obtain ⟨B, HB⟩ : ∃ B, Hid (B = w.heap.size) := ⟨_, rfl⟩
  obtain ⟨W0, HW0⟩ : ∃ W0, Hid (W0 = (w.alloc (.cells #[.int .i64 s, .slice a n cap] 29))) := ⟨_, rfl⟩
  have HK0 : Hid (Blk W0 B 2 (fun i => if i = 0 then .int .i64 s else .slice a n cap)) := by rw [HW0.out]; exact blk_two w B HB.out _ _ _
  have HBW : Hid (Below w.heap.size w W0) := by rw [HW0.out]; exact below1 w _
  have HSW : Hid (W0.heap.size = B + 1) := by rw [HW0.out, HB.out]; show _ = _; simp
  have HAW : Hid (EdgesIn lo hi W0 a l) := HA.out.below HBW.out HH.out
  have HHW : Hid (hi ≤ W0.heap.size) := Nat.le_trans HH.out HBW.out.size
  obtain ⟨c0, c1⟩ := blk_pair_cells HK0.out
  go_enter Try.func20, Try.ntmps20
  go_wp2
  rw [← HB.out, ← HW0.out]
  clear HW0 c0 c1
  go_loopw [14, 7] (fun i v wr => ∃ k m : Nat, i = .int .i64 k ∧ k ≤ n ∧ Hid (wr.ownsRow (B + 1) 3 1 v m (rowCells (nxTo l f b8 k))) ∧ Hid ((nxTo l f b8 k).length = m) ∧ Hid (Below (B + 1) W0 wr)) (fun i _ _ => n - (intOf i).toNat)
  case atStart =>
    refine ⟨0, 0, rfl, by omega, ?_, rfl, ?_⟩
    · show World.ownsRow _ _ _ _ _ _ []
      have := World.ownsRow_made W0 (base := B + 1) (e := 3) (size := 1) #[] 0 (by rw [HSW.out]; exact Nat.le_refl _) (Nat.zero_le _) rfl
      simpa [HSW.out] using this
    · exact (Below.refl _ _).alloc (by rw [HSW.out]; exact Nat.le_refl _) _
  case round =>
    obtain ⟨k, m, rfl, hk, HO, HM, HL⟩ := hrel
    have hmk : m ≤ k := by rw [← HM.out]; exact nxTo_len l f b8 k
    have HKR : Hid (Blk wr B 2 (fun i => if i = 0 then .int .i64 s else .slice a n cap)) := HK0.out.of_block (HL.out.block _ (by omega))
    obtain ⟨c0, c1⟩ := blk_pair_cells HKR.out
    have hszr : B + 1 ≤ wr.heap.size := by have := HL.out.size; have := HSW.out; omega
    by_cases hlt : k < n
    · have hlt1 : (k : Int) < (n : Int) := by omega
      have hlt0 : (0 : Int) ≤ (k : Int) := by omega
      have HBR : Hid (EdgesIn lo hi wr a l) := HAW.out.below HL.out (by have := HHW.out; have := HSW.out; omega)
      obtain ⟨b, o, rfl, _, _, hx⟩ := HBR.out.edge (k := k) (by rw [HN.out]; exact hlt)
      obtain ⟨x, HXX⟩ : ∃ x : Ed, Hid (x = eat l k) := ⟨_, rfl⟩
      rw [← HXX.out] at hx
      have HST : Hid (nxTo l f b8 (k + 1) = nxTo l f b8 k ++ (if (decide (x.1 = f) && decide (x.2.1 = b8)) = true then [x.2.2] else [])) := by show _ = _; rw [nxTo_step (by rw [HN.out]; exact hlt), ← HXX.out]
      obtain ⟨x0, x1, x2⟩ := x
      obtain ⟨p0, p1, p2⟩ := hx
      dsimp only at p0 p1 p2
      have HLa : Hid (Below (B + 1) W0 (wr.alloc (.cells #[.int .i64 x0, .int .u8 x1, .int .i64 x2] 37))) := HL.out.alloc hszr _
      have HOa : Hid ((wr.alloc (.cells #[.int .i64 x0, .int .u8 x1, .int .i64 x2] 37)).ownsRow (B + 1) 3 1 _ m (rowCells (nxTo l f b8 k))) := HO.out.alloc _
      by_cases h0 : f = x0
      · subst h0
        by_cases h1 : b8 = x1
        · subst h1
          have HST2 : Hid (nxTo l f b8 (k + 1) = nxTo l f b8 k ++ [x2]) := by show _ = _; rw [HST.out]; simp
          clear HST
          have hown := HOa.out.alloc (.cells #[.int .i64 x2] 3)
          go_wp2_with (at_builtin; refine wpList_append_lies _ rfl (.tmp 28) (.tmp 31) 41 rfl (B + 1) 3 i0 (.int .i64 0) 1 8 Try.underlying41 hi0 hz0 hz1 hz2 rfl (by decide) _ m (rowCells (nxTo l f b8 k)) rfl hown ⟨wr.heap.size + 1, 0, none⟩ 1 1 [.int .i64 x2] rfl rfl ?q1 (by simp [Value.oneCell']) (by decide) (by unfold maxLen; omega) (by omega) (by simp; omega) _ rfl ?_)
          case q1 =>
            have := cell_one_new' (wr.alloc (.cells #[.int .i64 f, .int .u8 b8, .int .i64 x2] 37)) (.int .i64 x2) 3
            simpa using this
          intro g2 cap2 w2 hown2 hgrow2 _ _
          have HL2 : Hid (Below (B + 1) W0 w2) := (HLa.out.alloc (by simp; omega) _).grown hgrow2 (by simp; omega) (fun k hk => (HO.out.lt k hk).1)
          have HO2 : Hid (w2.ownsRow (B + 1) 3 1 (.slice (some ⟨g2, 0, none⟩) (m + 1) cap2) (m + 1) (rowCells (nxTo l f b8 (k + 1)))) := by rw [HST2.out, rowCells_snoc]; exact hown2
          clear hown hown2 hgrow2
          go_wp2
          go_roundw
          case rel => exact ⟨k + 1, m + 1, by go_num, by omega, HO2, by show _ = _; rw [HST2.out, List.length_append, HM.out]; rfl, HL2⟩
          case measure => simp [intOf]; omega
        · have HST2 : Hid (nxTo l f b8 (k + 1) = nxTo l f b8 k) := by show _ = _; rw [HST.out]; simp [Ne.symm h1]
          have hd1 : decide (x1 = b8) = false := decide_eq_false (Ne.symm h1)
          have hd1' : (x1 == b8) = false := by simpa using (Ne.symm h1)
          clear HST
          go_wp2
          go_roundw
          case rel => exact ⟨k + 1, m, by go_num, by omega, by rw [HST2.out]; exact HOa, by show _ = _; rw [HST2.out, HM.out], HLa⟩
          case measure => simp [intOf]; omega
      · have HST2 : Hid (nxTo l f b8 (k + 1) = nxTo l f b8 k) := by show _ = _; rw [HST.out]; simp [Ne.symm h0]
        have hd0 : decide (x0 = f) = false := decide_eq_false (Ne.symm h0)
        have hd0' : (x0 == f) = false := by simpa using (Ne.symm h0)
        clear HST
        go_wp2
        go_roundw
        case rel => exact ⟨k + 1, m, by go_num, by omega, by rw [HST2.out]; exact HOa, by show _ = _; rw [HST2.out, HM.out], HLa⟩
        case measure => simp [intOf]; omega
    · obtain rfl : k = n := by omega
      have HNX : Hid (nxTo l f b8 k = nxTo l f b8 l.length) := by show _ = _; rw [HN.out]
      obtain ⟨a3, cap3, hv3, HR3⟩ := rowOwn_of HO.out HM.out
      have HCAP : Hid (m ≤ cap3) := owns_cap (hv3 ▸ HO.out)
      have HR3' : Hid (RowOwn (B + 1) wr.heap.size wr a3 (nxTo l f b8 k)) := HR3
      have HLW : Hid (Below w.heap.size w wr) := HBW.out.trans (HL.out.mono (by rw [HB.out]; omega))
      subst hv3
      clear HR3
      go_wp2_with fail
      refine (sortInts_any (B + 1) wr.heap.size m cap3 a3 (nxTo l f b8 k) wr HR3'.out HM.out (by omega)).mono ?_
      rintro e w4 ⟨rfl, Z, HZ, HZO, HK4⟩
      have HZN : Hid (Z.length = m) := by show _ = _; rw [HZ.out.1.length_eq]; exact HM.out
      have HL4 : Hid (Below w.heap.size w w4) := HLW.out.trans (HK4.out.to_below HLW.out.size (fun k hk => by rw [← HB.out]; omega))
      have HS4 : Hid (wr.heap.size ≤ w4.heap.size) := HK4.out.size
      go_wp2_with fail
      refine (compactInts_any (B + 1) wr.heap.size m cap3 a3 Z w4 HZO.out HZN.out (by omega) HCAP.out).mono ?_
      rintro e w5 ⟨m5, rfl, HM5, HR5, HK5⟩
      have HNE : Hid (Lib.compact Z = nextE l f b8) := by show _ = _; unfold nextE; rw [← HNX.out]; exact compact_is HZ.out.1 HZ.out.2
      have HL5 : Hid (Below w.heap.size w w5) := HL4.out.trans (HK5.out.to_below HL4.out.size (fun k hk => by rw [← HB.out]; omega))
      have HS5 : Hid (wr.heap.size ≤ w5.heap.size) := Nat.le_trans HS4.out HK5.out.size
      go_wp2
      go_ret
      exact ⟨a3, m5, cap3, rfl, by rw [← HNE.out]; exact HM5, by rw [← HNE.out]; exact HR5.out.wide (by rw [← HB.out]; omega) HS5.out, HL5⟩

set_option maxHeartbeats 4000000 in
set_option maxRecDepth 100000 in
theorem specNext_any (lo hi : Nat) (s : Int) (a : Option Addr) (n cap : Nat) (l : List Ed) (f b8 : Int) (w : World) (ha : EdgesIn lo hi w a l) (hh : hi ≤ w.heap.size) (hn : l.length = n) (hm : n ≤ 1048576) :
    Calls Try.prog 19 #[gv s a n cap, .int .i64 f, .int .u8 b8] w fun e w' => ∃ (a' : Option Addr) (n' cap' : Nat), e = .returned (.slice a' n' cap') ∧ Hid ((nextE l f b8).length = n') ∧ Hid (RowOwn w.heap.size w'.heap.size w' a' (nextE l f b8)) ∧ Hid (Below w.heap.size w w') := by
  have HN : Hid (l.length = n) := hn
  have HA : Hid (EdgesIn lo hi w a l) := ha
  have HH : Hid (hi ≤ w.heap.size) := hh
  obtain ⟨i0, hi0, hz0, hz1, hz2⟩ := info_parts Try.info3
  clear ha hh hn
  obtain ⟨B, HB⟩ : ∃ B, Hid (B = w.heap.size) := ⟨_, rfl⟩
  obtain ⟨W0, HW0⟩ : ∃ W0, Hid (W0 = (w.alloc (.cells #[.int .i64 s, .slice a n cap] 29))) := ⟨_, rfl⟩
  have HK0 : Hid (Blk W0 B 2 (fun i => if i = 0 then .int .i64 s else .slice a n cap)) := by rw [HW0.out]; exact blk_two w B HB.out _ _ _
  have HBW : Hid (Below w.heap.size w W0) := by rw [HW0.out]; exact below1 w _
  have HSW : Hid (W0.heap.size = B + 1) := by rw [HW0.out, HB.out]; show _ = _; simp
  have HAW : Hid (EdgesIn lo hi W0 a l) := HA.out.below HBW.out HH.out
  have HHW : Hid (hi ≤ W0.heap.size) := Nat.le_trans HH.out HBW.out.size
  obtain ⟨c0, c1⟩ := blk_pair_cells HK0.out
  go_enter Try.func19, Try.ntmps19
  go_wp2
  rw [← HB.out, ← HW0.out]
  clear HW0 c0 c1
  go_loopw [8, 7] (fun i v wr => ∃ k m : Nat, i = .int .i64 k ∧ k ≤ n ∧ Hid (wr.ownsRow (B + 1) 3 1 v m (rowCells (nxTo l f b8 k))) ∧ Hid ((nxTo l f b8 k).length = m) ∧ Hid (Below (B + 1) W0 wr)) (fun i _ _ => n - (intOf i).toNat)
  case atStart =>
    refine ⟨0, 0, rfl, by omega, ?_, rfl, ?_⟩
    · show World.ownsRow _ _ _ _ _ _ []
      have := World.ownsRow_made W0 (base := B + 1) (e := 3) (size := 1) #[] 0 (by rw [HSW.out]; exact Nat.le_refl _) (Nat.zero_le _) rfl
      simpa [HSW.out] using this
    · exact (Below.refl _ _).alloc (by rw [HSW.out]; exact Nat.le_refl _) _
  case round =>
    obtain ⟨k, m, rfl, hk, HO, HM, HL⟩ := hrel
    have hmk : m ≤ k := by rw [← HM.out]; exact nxTo_len l f b8 k
    have HKR : Hid (Blk wr B 2 (fun i => if i = 0 then .int .i64 s else .slice a n cap)) := HK0.out.of_block (HL.out.block _ (by omega))
    obtain ⟨c0, c1⟩ := blk_pair_cells HKR.out
    have hszr : B + 1 ≤ wr.heap.size := by have := HL.out.size; have := HSW.out; omega
    by_cases hlt : k < n
    · have hlt1 : (k : Int) < (n : Int) := by omega
      have hlt0 : (0 : Int) ≤ (k : Int) := by omega
      have HBR : Hid (EdgesIn lo hi wr a l) := HAW.out.below HL.out (by have := HHW.out; have := HSW.out; omega)
      obtain ⟨b, o, rfl, _, _, hx⟩ := HBR.out.edge (k := k) (by rw [HN.out]; exact hlt)
      obtain ⟨x, HXX⟩ : ∃ x : Ed, Hid (x = eat l k) := ⟨_, rfl⟩
      rw [← HXX.out] at hx
      have HST : Hid (nxTo l f b8 (k + 1) = nxTo l f b8 k ++ (if (decide (x.1 = f) && decide (x.2.1 = b8)) = true then [x.2.2] else [])) := by show _ = _; rw [nxTo_step (by rw [HN.out]; exact hlt), ← HXX.out]
      obtain ⟨x0, x1, x2⟩ := x
      obtain ⟨p0, p1, p2⟩ := hx
      dsimp only at p0 p1 p2
      have HLa : Hid (Below (B + 1) W0 (wr.alloc (.cells #[.int .i64 x0, .int .u8 x1, .int .i64 x2] 37))) := HL.out.alloc hszr _
      have HOa : Hid ((wr.alloc (.cells #[.int .i64 x0, .int .u8 x1, .int .i64 x2] 37)).ownsRow (B + 1) 3 1 _ m (rowCells (nxTo l f b8 k))) := HO.out.alloc _
      by_cases h0 : f = x0
      · subst h0
        by_cases h1 : b8 = x1
        · subst h1
          have HST2 : Hid (nxTo l f b8 (k + 1) = nxTo l f b8 k ++ [x2]) := by show _ = _; rw [HST.out]; simp
          clear HST
          have hown := HOa.out.alloc (.cells #[.int .i64 x2] 3)
          go_wp2_with (at_builtin; refine wpList_append_lies _ rfl (.tmp 33) (.tmp 36) 41 rfl (B + 1) 3 i0 (.int .i64 0) 1 8 Try.underlying41 hi0 hz0 hz1 hz2 rfl (by decide) _ m (rowCells (nxTo l f b8 k)) rfl hown ⟨wr.heap.size + 1, 0, none⟩ 1 1 [.int .i64 x2] rfl rfl ?q1 (by simp [Value.oneCell']) (by decide) (by unfold maxLen; omega) (by omega) (by simp; omega) _ rfl ?_)
          case q1 =>
            have := cell_one_new' (wr.alloc (.cells #[.int .i64 f, .int .u8 b8, .int .i64 x2] 37)) (.int .i64 x2) 3
            simpa using this
          intro g2 cap2 w2 hown2 hgrow2 _ _
          have HL2 : Hid (Below (B + 1) W0 w2) := (HLa.out.alloc (by simp; omega) _).grown hgrow2 (by simp; omega) (fun k hk => (HO.out.lt k hk).1)
          have HO2 : Hid (w2.ownsRow (B + 1) 3 1 (.slice (some ⟨g2, 0, none⟩) (m + 1) cap2) (m + 1) (rowCells (nxTo l f b8 (k + 1)))) := by rw [HST2.out, rowCells_snoc]; exact hown2
          clear hown hown2 hgrow2
          go_wp2
          go_roundw
          case rel => exact ⟨k + 1, m + 1, by go_num, by omega, HO2, by show _ = _; rw [HST2.out, List.length_append, HM.out]; rfl, HL2⟩
          case measure => simp [intOf]; omega
        · have HST2 : Hid (nxTo l f b8 (k + 1) = nxTo l f b8 k) := by show _ = _; rw [HST.out]; simp [Ne.symm h1]
          have hd1 : decide (x1 = b8) = false := decide_eq_false (Ne.symm h1)
          have hd1' : (x1 == b8) = false := by simpa using (Ne.symm h1)
          clear HST
          go_wp2
          go_roundw
          case rel => exact ⟨k + 1, m, by go_num, by omega, by rw [HST2.out]; exact HOa, by show _ = _; rw [HST2.out, HM.out], HLa⟩
          case measure => simp [intOf]; omega
      · have HST2 : Hid (nxTo l f b8 (k + 1) = nxTo l f b8 k) := by show _ = _; rw [HST.out]; simp [Ne.symm h0]
        have hd0 : decide (x0 = f) = false := decide_eq_false (Ne.symm h0)
        have hd0' : (x0 == f) = false := by simpa using (Ne.symm h0)
        clear HST
        go_wp2
        go_roundw
        case rel => exact ⟨k + 1, m, by go_num, by omega, by rw [HST2.out]; exact HOa, by show _ = _; rw [HST2.out, HM.out], HLa⟩
        case measure => simp [intOf]; omega
    · obtain rfl : k = n := by omega
      have HNX : Hid (nxTo l f b8 k = nxTo l f b8 l.length) := by show _ = _; rw [HN.out]
      obtain ⟨a3, cap3, hv3, HR3⟩ := rowOwn_of HO.out HM.out
      have HCAP : Hid (m ≤ cap3) := owns_cap (hv3 ▸ HO.out)
      have HR3' : Hid (RowOwn (B + 1) wr.heap.size wr a3 (nxTo l f b8 k)) := HR3
      have HLW : Hid (Below w.heap.size w wr) := HBW.out.trans (HL.out.mono (by rw [HB.out]; omega))
      subst hv3
      clear HR3
      go_wp2_with fail
      refine (l04Sorted_any (B + 1) wr.heap.size a3 m cap3 (nxTo l f b8 k) wr HR3'.out.toIn (Nat.le_refl _) HM.out (by omega)).mono ?_
      rintro e w5 ⟨a5, m5, cap5, rfl, HM5, HR5, HB5⟩
      have HNE : Hid (nextL (nxTo l f b8 k) = nextE l f b8) := by show _ = _; unfold nextE; rw [← HNX.out]
      have HL5 : Hid (Below w.heap.size w w5) := HLW.out.trans (HB5.out.mono HLW.out.size)
      go_wp2
      go_ret
      exact ⟨a5, m5, cap5, rfl, by rw [← HNE.out]; exact HM5, by rw [← HNE.out]; exact HR5.out.wide HLW.out.size (Nat.le_refl _), HL5⟩
end Go.Proofs.Ytfeimdlkpiacoaa
