/-
  Graphs put together: impl.Together.
-/
import Derived.Test.YtigojleieihdoaaGs
import Derived.Test.YtigojleieihdoaaGOk
import Derived.Deep.DeepCutAuto
namespace Go.Proofs.Ytigojleieihdoaa
open Go.RowKit

set_option maxHeartbeats 8000000 in
set_option maxRecDepth 100000 in
theorem together_any (lo hi : Nat) (a : Option Addr) (n cap : Nat) (G : List Gr) (w : World) (ha : GrsIn lo hi w a G) (hh : hi ≤ w.heap.size) (hn : G.length = n) (hm : n ≤ 1048576) (ht : (catTo G G.length).length ≤ 1048576) :
    Calls Try.prog 7 #[.slice a n cap] w fun e w' => ∃ (a' : Option Addr) (n' cap' : Nat), e = .returned (.tuple #[gv (togS G) a' n' cap', .bool (togB G)]) ∧ Hid ((togE G).length = n') ∧ Hid (EdgesOwn w.heap.size w'.heap.size w' a' (togE G)) ∧ Hid (Below w.heap.size w w') := by
  have HN : Hid (G.length = n) := hn
  have HA : Hid (GrsIn lo hi w a G) := ha
  have HH : Hid (hi ≤ w.heap.size) := hh
  have HTT : Hid ((catTo G G.length).length ≤ 1048576) := ht
  obtain ⟨i0, hi0, hz0, hz1, hz2⟩ := info_parts Try.info43
  clear ha hh hn ht
  obtain ⟨B, HB⟩ : ∃ B, Hid (w.heap.size = B) := ⟨_, rfl⟩
  by_cases h0 : n = 0
  · subst h0
    have HG : Hid (G = []) := List.length_eq_zero_iff.1 HN.out
    have HF : Hid (togB G = false) := by rw [HG.out]; exact togB_none
    have HR0 : Hid (Blk (w.alloc (.cells #[.int .i64 0, .slice none 0 0] 26)) B 2 (fun i => if i = 0 then .int .i64 0 else .slice none 0 0)) := blk_two w B HB.out.symm _ _ _
    obtain ⟨W, HW⟩ : ∃ W, Hid (W = w.alloc (.cells #[.int .i64 0, .slice none 0 0] 26)) := ⟨_, rfl⟩
    have HBW : Hid (Below w.heap.size w W) := by rw [HW.out]; exact below1 w _
    rw [← HW.out] at HR0
    go_enter Try.func7, Try.ntmps7
    go_upto_region 1 with fail
    rw [HB.out, ← HW.out]
    clear HW
    obtain ⟨r0, r1⟩ := blk_pair_cells HR0.out
    have rf0 := Blk.frozen HR0.out 0
    have rf1 := Blk.frozen HR0.out 1
    go_wp2
    refine bodyPost_ret (v := .tuple #[.agg #[.int .i64 0, .slice none 0 0], .bool false]) (by simp [results, Try.results7, go_sem, r0, r1]) rfl ?_
    have hbl : Below w.heap.size w W := HBW.out
    refine ⟨none, 0, 0, by rw [togS_no HF.out, HF.out], by rw [togE_no HF.out]; rfl, by rw [togE_no HF.out]; exact .inl rfl, ?_⟩
    show Below _ _ _
    exact (hbl.setCell (p := ⟨B, 0, none⟩) (by show w.heap.size ≤ B; have := HB.out; omega) _).setCell (p := ⟨B, 1, none⟩) (by show w.heap.size ≤ B; have := HB.out; omega) _
  have hne : ¬ (n : Int) = 0 := by omega
  have hne2 : ((n : Int) == 0) = false := by simp; omega
  have hne3 : decide ((n : Int) = 0) = false := by simp; omega
  have h0n : (0 : Int) < (n : Int) := by omega
  obtain ⟨s0, HS0⟩ : ∃ s0, Hid (s0 = (gat G 0).1) := ⟨_, rfl⟩
  obtain ⟨b, o, rfl, hbh, hg0⟩ := HA.out.graph (k := 0) (by rw [HN.out]; omega)
  obtain ⟨a9, c9, g0, _, _⟩ := hg0
  rw [← HS0.out] at g0
  have g0' : w.cell? ⟨b, o, none⟩ = some (.int .i64 s0) := by simpa using g0
  have g0w : (w.alloc (.cells #[.int .i64 0, .slice none 0 0] 26)).cell? ⟨b, o, none⟩ = some (.int .i64 s0) := cell_below g0' (below1 w _) (lt_of_cell g0')
  obtain ⟨W1, HW1⟩ : ∃ W1, Hid (W1 = (w.alloc (.cells #[.int .i64 0, .slice none 0 0] 26)).alloc (.cells #[.int .i64 s0, .slice none 0 0] 26)) := ⟨_, rfl⟩
  have HTI : Hid (TI w W1 B s0 none 0 0 []) := by
    rw [HW1.out]
    exact ⟨below2 w _ _, (blk_two w B HB.out.symm _ _ _).alloc _, blk_two _ (B + 1) (by simp [HB.out]) _ _ _, World.ownsRow_nil _ _ _ _, rfl, HB.out, by simp; have := HB.out; omega⟩
  clear g0 g0' hbh
  go_enter Try.func7, Try.ntmps7
  go_wp2
  rw [HB.out, ← HW1.out]
  clear HW1 g0w
  go_loopw [18] (fun i wr => ∃ (k m : Nat) (a' : Option Addr) (cap' : Nat), i = .int .i64 k ∧ k ≤ n ∧ Hid (TI w wr B s0 a' m cap' (catTo G k)) ∧ Hid (∀ i, i < k → okG (gat G i).1 (gat G i).2 = true ∧ (gat G i).1 = s0)) (fun i _ => n - (intOf i).toNat)
  case atStart => exact ⟨0, 0, none, 0, rfl, by omega, HTI, fun i hi => absurd hi (by omega)⟩
  case round =>
    obtain ⟨k, m, a', cap', rfl, hk, HT, HAL⟩ := hrel
    by_cases hlt : k < n
    · have hlt1 : (k : Int) < (n : Int) := by omega
      have hlt0 : (0 : Int) ≤ (k : Int) := by omega
      have hkl : k < G.length := by rw [HN.out]; exact hlt
      have HGR : Hid (GrsIn lo hi wr (some ⟨b, o, none⟩) G) := HA.out.below HT.out.bel HH.out
      obtain ⟨b2, o2, eq2, hb2, hgk⟩ := HGR.out.graph hkl
      simp only [Option.some.injEq, Addr.mk.injEq, and_true] at eq2
      obtain ⟨rfl, rfl⟩ := eq2
      obtain ⟨ak, ck, q0, q1, hek⟩ := hgk
      obtain ⟨gk, HGK⟩ : ∃ gk : Gr, Hid (gk = gat G k) := ⟨_, rfl⟩
      rw [← HGK.out] at q0 q1 hek
      have HST : Hid (catTo G (k + 1) = catTo G k ++ gk.2) := by show _ = _; rw [catTo_step hkl, HGK.out]
      have HTL : Hid ((catTo G (k + 1)).length ≤ 1048576) := Nat.le_trans (catTo_le (by rw [HN.out]; omega)) HTT.out
      obtain ⟨sk, lk⟩ := gk
      dsimp only at q0 q1 hek
      obtain ⟨nk, HNK⟩ : ∃ nk, Hid (lk.length = nk) := ⟨_, rfl⟩
      rw [HNK.out] at q1
      have hmn : m + nk ≤ 1048576 := by
        have h1 := HTL.out
        rw [HST.out, List.length_append, HT.out.len] at h1
        have h2 := HNK.out
        dsimp only at h1
        omega
      obtain ⟨r, HR⟩ : ∃ r, Hid (r = okG sk lk) := ⟨_, rfl⟩
      obtain ⟨E, HE⟩ : ∃ E, Hid (wr.heap.size = E) := ⟨_, rfl⟩
      obtain ⟨W, HW⟩ : ∃ W, Hid (W = wr.alloc (.cells #[.int .i64 sk, .slice ak nk ck] 26)) := ⟨_, rfl⟩
      have HWB : Hid (Below wr.heap.size wr W) := by rw [HW.out]; exact below1 _ _
      have HGB : Hid (Blk W E 2 (fun i => if i = 0 then .int .i64 sk else .slice ak nk ck)) := by rw [HW.out]; exact blk_two wr E HE.out.symm _ _ _
      have HTW : Hid (TI w W B s0 a' m cap' (catTo G k)) := HT.out.below HWB.out
      have HEW : Hid (EdgesIn lo hi W ak lk) := hek.below HWB.out (Nat.le_trans HH.out HT.out.bel.size)
      have HHW : Hid (hi ≤ W.heap.size) := Nat.le_trans HH.out HTW.out.bel.size
      obtain ⟨c0, c1⟩ := blk_pair_cells HGB.out
      go_upto_region 7 with fail
      rw [HE.out, ← HW.out]
      clear HW q0 q1 hek HT HWB HGR HE
      go_wp2_with fail
      refine (graphOk_any lo hi sk ak nk ck lk r W HEW.out HHW.out HNK.out (by omega) HR.out).mono ?_
      rintro e w3 ⟨rfl, B3⟩
      have HT3 : Hid (TI w w3 B s0 a' m cap' (catTo G k)) := HTW.out.below B3.out
      have HG3 : Hid (Blk w3 E 2 (fun i => if i = 0 then .int .i64 sk else .slice ak nk ck)) := HGB.out.of_block (B3.out.block _ HGB.out.lt)
      have HE3 : Hid (EdgesIn lo hi w3 ak lk) := HEW.out.below B3.out HHW.out
      clear c0 c1 B3 HTW HGB HEW HHW
      obtain ⟨c0, c1⟩ := blk_pair_cells HG3.out
      obtain ⟨t0, t1⟩ := blk_pair_cells HT3.out.box
      rcases Bool.eq_false_or_eq_true r with hr | hr
      · subst hr
        by_cases hs : sk = s0
        · subst hs
          have hrow := HT3.out.row
          go_wp2_with (at_builtin; refine wpList_append_row _ rfl (.tmp 34) (.tmp 36) 24 rfl (B + 2) 43 i0 _ 3 24 Try.underlying24 hi0 hz0 hz1 hz2 rfl (by decide) (.slice a' m cap') m (ecells (catTo G k)) rfl hrow ak nk ck (ecells lk) rfl (edgesIn_none HE3.out HNK.out) (by rw [ecells_len, HNK.out]) (ecells_at HE3.out) (ecells_one lk) (by unfold maxLen; omega) (by omega) HT3.out.lt.2 ?_)
          intro v4 w4 hown4 hgrow4
          have HB4 : Hid (Below (B + 2) w3 w4) := (Below.refl (B + 2) w3).grown hgrow4 HT3.out.lt.2 (fun k hk => (HT3.out.row.lt k hk).1)
          rw [← ecells_app, ← HST.out] at hown4
          have HL4 : Hid ((catTo G (k + 1)).length = m + nk) := by show _ = _; rw [HST.out, List.length_append, HT3.out.len, HNK.out]
          obtain ⟨a4, cap4, hv4, _⟩ := edges_own hown4 HL4.out
          subst hv4
          have HO4 : Hid (w4.ownsRow (B + 2) 43 3 (.slice a4 (m + nk) cap4) (m + nk) (ecells (catTo G (k + 1)))) := hown4
          have HX4 : Hid (Blk w4 (B + 1) 2 (fun i => if i = 0 then .int .i64 sk else .slice a' m cap')) := HT3.out.box.of_block (HB4.out.block _ (by omega))
          clear hown4 hgrow4 hrow c0 c1 t0 t1
          obtain ⟨u0, u1⟩ := blk_pair_cells HX4.out
          have uf1 := Blk.frozen HX4.out 1
          go_wp2
          go_roundw
          case rel =>
            refine ⟨k + 1, m + nk, a4, cap4, by go_num, by omega, HT3.out.put HB4.out HO4.out HL4.out, fun i hi => ?_⟩
            by_cases e : i = k
            · subst e; rw [← HGK.out]; exact ⟨HR.out.symm, rfl⟩
            · exact HAL.out i (by omega)
          case measure => simp [intOf]; omega
        · have hd : (sk == s0) = false := by simpa using hs
          have hd2 : decide (sk = s0) = false := decide_eq_false hs
          have HF : Hid (togB G = false) := togB_bad hkl (.inr (by rw [← HGK.out, ← HS0.out]; exact hs))
          obtain ⟨r0, r1⟩ := blk_pair_cells HT3.out.res
          have rf0 := Blk.frozen HT3.out.res 0
          have rf1 := Blk.frozen HT3.out.res 1
          go_wp2
          refine bodyPost_ret (v := .tuple #[.agg #[.int .i64 0, .slice none 0 0], .bool false]) (by simp [results, Try.results7, go_sem, r0, r1]) rfl ?_
          have hbl : Below w.heap.size w w3 := HT3.out.bel
          refine ⟨none, 0, 0, by rw [togS_no HF.out, HF.out], by rw [togE_no HF.out]; rfl, by rw [togE_no HF.out]; exact .inl rfl, ?_⟩
          show Below _ _ _
          exact (hbl.setCell (p := ⟨B, 0, none⟩) (by show w.heap.size ≤ B; have := HB.out; omega) _).setCell (p := ⟨B, 1, none⟩) (by show w.heap.size ≤ B; have := HB.out; omega) _
      · subst hr
        have HF : Hid (togB G = false) := togB_bad hkl (.inl (by rw [← HGK.out]; exact HR.out.symm))
        obtain ⟨r0, r1⟩ := blk_pair_cells HT3.out.res
        have rf0 := Blk.frozen HT3.out.res 0
        have rf1 := Blk.frozen HT3.out.res 1
        go_wp2
        refine bodyPost_ret (v := .tuple #[.agg #[.int .i64 0, .slice none 0 0], .bool false]) (by simp [results, Try.results7, go_sem, r0, r1]) rfl ?_
        have hbl : Below w.heap.size w w3 := HT3.out.bel
        refine ⟨none, 0, 0, by rw [togS_no HF.out, HF.out], by rw [togE_no HF.out]; rfl, by rw [togE_no HF.out]; exact .inl rfl, ?_⟩
        show Below _ _ _
        exact (hbl.setCell (p := ⟨B, 0, none⟩) (by show w.heap.size ≤ B; have := HB.out; omega) _).setCell (p := ⟨B, 1, none⟩) (by show w.heap.size ≤ B; have := HB.out; omega) _
    · obtain rfl : k = n := by omega
      have HGD : Hid (togB G = okG s0 (togL G)) := by
        show _ = _
        rw [HS0.out]
        exact togB_good (by rw [HN.out]; omega) (fun i hi => by rw [HN.out] at hi; rw [← HS0.out]; exact HAL.out i hi)
      have HCT : Hid (catTo G k = catTo G G.length) := by show _ = _; rw [HN.out]
      have HTM : Hid (m ≤ 1048576) := by show _ ≤ _; rw [← HT.out.len, HCT.out]; exact HTT.out
      have HCAP : Hid (m ≤ cap') := owns_capE HT.out.row
      obtain ⟨t0, t1⟩ := blk_pair_cells HT.out.box
      have htm := HTM.out
      go_wp2_with fail
      refine (sortOwn_any (B + 2) wr.heap.size m cap' a' (catTo G k) wr HT.out.own (Nat.le_refl _) HT.out.len HTM.out).mono ?_
      rintro e w4 ⟨rfl, L4, HP4, HE4, HK4⟩
      have HX4 : Hid (Blk w4 (B + 1) 2 (fun i => if i = 0 then .int .i64 s0 else .slice a' m cap')) := HK4.out.blk HT.out.box (by omega)
      have HR4 : Hid (Blk w4 B 2 (fun i => if i = 0 then .int .i64 0 else .slice none 0 0)) := HK4.out.blk HT.out.res (by omega)
      have HB4 : Hid (Below w.heap.size w w4) := HT.out.bel.trans (HK4.out.to_below HT.out.bel.size (fun k hk => by have := HB.out; omega))
      have HN4 : Hid (L4.length = m) := by show _ = _; rw [HP4.out.1.length_eq]; exact HT.out.len
      have HDL : Hid (dedL L4 = togL G) := by show _ = _; unfold togL; rw [← HCT.out]; exact dedL_is HP4.out.1 HP4.out.2
      obtain ⟨hz, HHZ⟩ : ∃ hz, Hid (wr.heap.size = hz) := ⟨_, rfl⟩
      have HS4 : Hid (hz ≤ w4.heap.size) := by rw [← HHZ.out]; exact HK4.out.size
      rw [HHZ.out] at HE4
      clear t0 t1 HK4 HP4 HT HAL HTI
      obtain ⟨t0, t1⟩ := blk_pair_cells HX4.out
      go_wp2_with fail
      refine (compactOwn_any (B + 2) hz m cap' a' L4 w4 HE4.out HN4.out HTM.out HCAP.out).mono ?_
      rintro e w5 ⟨m5, rfl, HM5, HE5, HK5⟩
      rw [HDL.out] at HM5 HE5
      have HX5 : Hid (Blk w5 (B + 1) 2 (fun i => if i = 0 then .int .i64 s0 else .slice a' m cap')) := HK5.out.blk HX4.out (by omega)
      have HR5 : Hid (Blk w5 B 2 (fun i => if i = 0 then .int .i64 0 else .slice none 0 0)) := HK5.out.blk HR4.out (by omega)
      have HB5 : Hid (Below w.heap.size w w5) := HB4.out.trans (HK5.out.to_below HB4.out.size (fun k hk => by have := HB.out; omega))
      have HS5 : Hid (hz ≤ w5.heap.size) := Nat.le_trans HS4.out HK5.out.size
      clear t0 t1 HK5 HX4 HR4 HB4 HE4 HS4 HN4 HDL
      obtain ⟨t0, t1⟩ := blk_pair_cells HX5.out
      have tf1 := Blk.frozen HX5.out 1
      obtain ⟨W6, HW6⟩ : ∃ W6, Hid (W6 = w5.setCell ⟨B + 1, 1, none⟩ (.slice a' m5 cap')) := ⟨_, rfl⟩
      have HX6 : Hid (Blk W6 (B + 1) 2 (fun i => if i = 0 then .int .i64 s0 else .slice a' m5 cap')) := by rw [HW6.out]; exact box_put1 HX5.out _
      have HR6 : Hid (Blk W6 B 2 (fun i => if i = 0 then .int .i64 0 else .slice none 0 0)) := by rw [HW6.out]; exact HR5.out.of_block (Below.heap_setCell _ ⟨B + 1, 1, none⟩ _ B (by show B ≠ B + 1; omega))
      have HB6 : Hid (Below w.heap.size w W6) := by rw [HW6.out]; exact HB5.out.setCell (p := ⟨B + 1, 1, none⟩) (by show w.heap.size ≤ B + 1; have := HB.out; omega) _
      have HE6 : Hid (EdgesOwn (B + 2) hz W6 a' (togL G)) := by rw [HW6.out]; exact HE5.out.setCell (by omega) _
      have HS6 : Hid (hz ≤ W6.heap.size) := by rw [HW6.out]; show hz ≤ (World.setCell _ _ _).heap.size; have := HS5.out; simp; omega
      have hm5 : m5 ≤ 1048576 := by
        have h1 := putOn_len (catTo G G.length) []
        have h2 := HM5.out
        have h3 := HTT.out
        unfold togL at h2
        simp at h1
        omega
      obtain ⟨r, HRR⟩ : ∃ r, Hid (r = okG s0 (togL G)) := ⟨_, rfl⟩
      go_upto_region 13 with fail
      rw [← HW6.out]
      clear t0 t1 tf1 HW6 HX5 HR5 HB5 HE5 HS5
      obtain ⟨t0, t1⟩ := blk_pair_cells HX6.out
      go_wp2_with fail
      refine (graphOk_any (B + 2) hz s0 a' m5 cap' (togL G) r W6 HE6.out.toIn HS6.out HM5.out hm5 HRR.out).mono ?_
      rintro e w7 ⟨rfl, B7⟩
      have HXE : Hid (Blk w7 (B + 1) 2 (fun i => if i = 0 then .int .i64 s0 else .slice a' m5 cap')) := HX6.out.of_block (B7.out.block _ HX6.out.lt)
      have HRE : Hid (Blk w7 B 2 (fun i => if i = 0 then .int .i64 0 else .slice none 0 0)) := HR6.out.of_block (B7.out.block _ HR6.out.lt)
      have HBE : Hid (Below w.heap.size w w7) := HB6.out.trans (B7.out.mono HB6.out.size)
      have HEO : Hid (EdgesOwn (B + 2) hz w7 a' (togL G)) := HE6.out.below B7.out HS6.out
      have HSE : Hid (hz ≤ w7.heap.size) := Nat.le_trans HS6.out B7.out.size
      have HM := HM5
      clear t0 t1 B7 HX6 HR6 HB6 HE6 HS6
      rcases Bool.eq_false_or_eq_true r with hr | hr
      · subst hr
        have HF : Hid (togB G = true) := by show _ = _; rw [HGD.out]; exact HRR.out.symm
        obtain ⟨r0, r1⟩ := blk_pair_cells HRE.out
        have rf0 := Blk.frozen HRE.out 0
        have rf1 := Blk.frozen HRE.out 1
        obtain ⟨d0, d1⟩ := blk_pair_cells HXE.out
        go_wp2
        refine bodyPost_ret (v := .tuple #[.agg #[.int .i64 s0, .slice a' m5 cap'], .bool true]) (by simp [results, Try.results7, go_sem, r0, r1]) rfl ?_
        refine ⟨a', m5, cap', by rw [togS_yes HF.out, HF.out, ← HS0.out], by rw [togE_yes HF.out]; exact HM, ?_, ?_⟩
        · rw [togE_yes HF.out]
          show EdgesOwn _ _ _ _ _
          exact ((HEO.out.setCell (b := B) (j := 0) (by omega) _).setCell (b := B) (j := 1) (by omega) _).wide (by have := HB.out; omega) (by simpa using HSE.out)
        · show Below _ _ _
          exact (HBE.out.setCell (p := ⟨B, 0, none⟩) (by show w.heap.size ≤ B; have := HB.out; omega) _).setCell (p := ⟨B, 1, none⟩) (by show w.heap.size ≤ B; have := HB.out; omega) _
      · subst hr
        have HF : Hid (togB G = false) := by show _ = _; rw [HGD.out]; exact HRR.out.symm
        obtain ⟨r0, r1⟩ := blk_pair_cells HRE.out
        have rf0 := Blk.frozen HRE.out 0
        have rf1 := Blk.frozen HRE.out 1
        go_wp2
        refine bodyPost_ret (v := .tuple #[.agg #[.int .i64 0, .slice none 0 0], .bool false]) (by simp [results, Try.results7, go_sem, r0, r1]) rfl ?_
        have hbl : Below w.heap.size w w7 := HBE.out
        refine ⟨none, 0, 0, by rw [togS_no HF.out, HF.out], by rw [togE_no HF.out]; rfl, by rw [togE_no HF.out]; exact .inl rfl, ?_⟩
        show Below _ _ _
        exact (hbl.setCell (p := ⟨B, 0, none⟩) (by show w.heap.size ≤ B; have := HB.out; omega) _).setCell (p := ⟨B, 1, none⟩) (by show w.heap.size ≤ B; have := HB.out; omega) _
end Go.Proofs.Ytigojleieihdoaa
