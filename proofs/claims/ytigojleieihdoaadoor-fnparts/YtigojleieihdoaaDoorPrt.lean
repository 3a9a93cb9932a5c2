/-
  The part of one: slices.Index and slices.Contains at ints, impl.PartOf, spec.PartOf.
-/
import Derived.Test.YtigojleieihdoaaDoorOwd
import Derived.Test.YtigojleieihdoaaDoorGCln
import Derived.Deep.DeepCutAuto
namespace Go.Proofs.YtigojleieihdoaaDoor
open Go.RowKit

set_option maxHeartbeats 1000000 in
set_option maxRecDepth 100000 in
theorem indexI_any (lo hi : Nat) (a : Option Addr) (n cap : Nat) (l : List Int) (x : Int) (w : World) (ha : RowIn lo hi w a l) (hn : l.length = n) (hm : n ≤ 1048576) :
    Calls Tryd.prog 65 #[.slice a n cap, .int .i64 x] w fun r w' => (∃ z : Int, r = .returned (.int .i64 z) ∧ Hid (0 ≤ z ↔ x ∈ l)) ∧ w = w' := by
  have HN : Hid (l.length = n) := hn
  have HA : Hid (RowIn lo hi w a l) := ha
  clear ha hn
  go_enter Tryd.func65, Tryd.ntmps65
  go_wp2
  go_loop [8] (fun i => ∃ k : Nat, i = .int .i64 k ∧ k ≤ n ∧ Hid (∀ j, j < k → l.getD j 0 ≠ x)) (fun i => n - (intOf i).toNat)
  case atStart => exact ⟨0, rfl, by omega, fun j hj => absurd hj (by omega)⟩
  case round =>
    obtain ⟨k, rfl, hk, HP⟩ := hrel
    by_cases hlt : k < n
    · have hlt1 : (k : Int) < (n : Int) := by omega
      have hlt0 : (0 : Int) ≤ (k : Int) := by omega
      obtain ⟨b, o, rfl, hc⟩ := HA.out.num (i := k) (by rw [HN.out]; exact hlt)
      obtain ⟨y, HY⟩ : ∃ y, Hid (y = l.getD k 0) := ⟨_, rfl⟩
      rw [← HY.out] at hc
      by_cases he : x = y
      · have HIN : Hid (x ∈ l) := by
          show _ ∈ _
          have hkl : k < l.length := by rw [HN.out]; exact hlt
          rw [he, HY.out]
          simp [List.getD, hkl]
        subst he
        go_wp2
        go_ret
        exact ⟨⟨(k : Int), rfl, ⟨fun _ => HIN.out, fun _ => by omega⟩⟩, rfl⟩
      · have hd : (x == y) = false := by simpa using he
        have hd2 : decide (x = y) = false := decide_eq_false he
        go_wp2
        go_roundw
        case rel =>
          refine ⟨k + 1, by go_num, by omega, fun j hj => ?_⟩
          by_cases e : j = k
          · subst e; rw [← HY.out]; exact fun h => he h.symm
          · exact HP.out j (by omega)
        case measure => simp [intOf]; omega
    · obtain rfl : k = n := by omega
      have HNO : Hid (¬ x ∈ l) := by
        intro h
        obtain ⟨j, hj, e⟩ := List.getElem_of_mem h
        exact HP.out j (by rw [← HN.out]; exact hj) (by simp [List.getD, hj, e])
      go_wp2
      go_ret
      exact ⟨⟨-1, rfl, ⟨fun h => absurd h (by omega), fun h => absurd h HNO.out⟩⟩, rfl⟩

set_option maxHeartbeats 400000 in
theorem containsI_any (lo hi : Nat) (a : Option Addr) (n cap : Nat) (l : List Int) (x : Int) (q : Bool) (w : World) (ha : RowIn lo hi w a l) (hn : l.length = n) (hm : n ≤ 1048576) (hq : q = decide (x ∈ l)) :
    Calls Tryd.prog 42 #[.slice a n cap, .int .i64 x] w fun r w' => r = .returned (.bool q) ∧ w = w' := by
  have HQ : Hid (q = decide (x ∈ l)) := hq
  clear hq
  go_enter Tryd.func42, Tryd.ntmps42
  go_wp2_with fail
  refine (indexI_any lo hi a n cap l x w ha hn hm).mono ?_
  rintro e w1 ⟨⟨z, rfl, HZ⟩, rfl⟩
  have hz : decide (0 ≤ z) = q := by rw [HQ.out, decide_eq_decide]; exact HZ.out
  go_wp2
  go_ret
  exact ⟨rfl, rfl⟩

/-- the edges of one -/
def partL (s : Int) (l : List Ed) (wk nw : Int) : List Ed := if okG s l = true then l.filter (fun e => decide (ownOf e.1 nw = wk)) else []
theorem partL_yes {s : Int} {l : List Ed} (wk nw : Int) (h : okG s l = true) : partL s l wk nw = l.filter (fun e => decide (ownOf e.1 nw = wk)) := by unfold partL; rw [if_pos h]
theorem partL_no {s : Int} {l : List Ed} (wk nw : Int) (h : okG s l = false) : partL s l wk nw = [] := by unfold partL; rw [if_neg (by rw [h]; decide)]
theorem partL_len (s : Int) (l : List Ed) (wk nw : Int) : (partL s l wk nw).length ≤ l.length := by
  unfold partL
  split
  · exact List.length_filter_le _ _
  · simp
theorem okE_from {s : Int} {x : Ed} (h : okE s x = true) : 0 ≤ x.1 ∧ x.1 < s := by
  unfold okE inV at h
  simp only [Bool.and_eq_true, decide_eq_true_eq] at h
  omega
theorem part_of_owned (s : Int) (l : List Ed) (wk nw : Int) : l.filter (fun e => decide (e.1 ∈ ownL s l wk nw)) = partL s l wk nw := by
  rcases h : okG s l with _ | _
  · rw [partL_no wk nw h, ownL_no wk nw h]
    simp
  · rw [partL_yes wk nw h, ownL_yes wk nw h]
    refine List.filter_congr fun x hx => ?_
    have hx2 := okE_from ((okG_iff.1 h).2.2.1 x hx)
    rw [decide_eq_decide, ownTo_mem]
    constructor
    · exact fun h => h.2
    · exact fun h => ⟨⟨hx2.1, by omega⟩, h⟩

/-- the worlds of a loop that fills a graph in box P, its rows from M on -/
abbrev Off (P M : Nat) (w w' : World) : Prop := KeptP (fun c => c = P ∨ M ≤ c) w w'
theorem Off.more {P M : Nat} {w w1 w2 : World} (h : Off P M w w1) (hb : Below M w1 w2) : Off P M w w2 :=
  h.trans (KeptP.of_below hb (fun k _ hn => by have := (not_or.1 hn).2; omega))
theorem Off.put {P M j : Nat} {w w1 : World} (h : Off P M w w1) (u : Value) : Off P M w (w1.setCell ⟨P, j, none⟩ u) := h.setCell (Or.inl rfl) u
theorem Off.low {P M B : Nat} {w w1 : World} (h : Off P M w w1) (hs : B ≤ w.heap.size) (h1 : B ≤ P) (h2 : B ≤ M) : Below B w w1 :=
  h.to_below hs (fun k hk => by rcases hk with rfl | hk <;> omega)
theorem Off.blk {P M b n : Nat} {w w1 : World} {f : Nat → Value} (h : Off P M w w1) (hb : Blk w b n f) (h1 : b ≠ P) (h2 : b < M) : Blk w1 b n f := KeptP.blk h hb (by rintro (h | h) <;> omega)
theorem own_in' {M n cap : Nat} {w : World} {a : Option Addr} {L : List Ed} (h : w.ownsRow M 37 3 (.slice a n cap) n (ecells L)) (hn : L.length = n) : EdgesOwn M w.heap.size w a L := by
  obtain ⟨a2, cap2, hv, h⟩ := edges_own h hn
  simp only [Value.slice.injEq] at hv
  rw [hv.1]; exact h
theorem box_put {w : World} {P : Nat} {x y : Value} (h : Blk w P 2 (fun i => if i = 0 then x else y)) (u : Value) : Blk (w.setCell ⟨P, 1, none⟩ u) P 2 (fun i => if i = 0 then x else u) :=
  (h.set 1 (by omega) _).congr (fun i hi => by rcases (show i = 0 ∨ i = 1 by omega) with rfl | rfl <;> simp)
theorem own_drew' {w : World} {B e s n : Nat} {v : Value} {xs : List Value} (h : w.ownsRow B e s v n xs) : w.drew.ownsRow B e s v n xs := h
theorem grown_undrew' {w w4 : World} {v : Option Nat} (h : (w.drew).grownBy w4 v) : w.grownBy w4 v := ⟨h.os, h.tape, h.output, h.size, h.block⟩

set_option maxHeartbeats 8000000 in
set_option maxRecDepth 100000 in
theorem partOf_any (lo hi : Nat) (s : Int) (a : Option Addr) (n cap : Nat) (l : List Ed) (wk nw : Int) (w : World) (ht : FT w) (ha : EdgesIn lo hi w a l) (hh : hi ≤ w.heap.size) (hn : l.length = n) (hm : n ≤ 1048576) :
    Calls Tryd.prog 15 #[gv s a n cap, .int .i64 wk, .int .i64 nw] w fun e w' => ∃ (a' : Option Addr) (n' cap' : Nat), e = .returned (gv s a' n' cap') ∧ Hid ((partL s l wk nw).length = n') ∧ Hid (EdgesOwn w.heap.size w'.heap.size w' a' (partL s l wk nw)) ∧ Hid (Below w.heap.size w w') := by
  have HN : Hid (l.length = n) := hn
  have HA : Hid (EdgesIn lo hi w a l) := ha
  have HH : Hid (hi ≤ w.heap.size) := hh
  have HT : Hid (FT w) := ht
  clear ht
  obtain ⟨i0, hi0, hz0, hz1, hz2⟩ := info_parts Tryd.info37
  clear ha hh hn
  obtain ⟨B, HB⟩ : ∃ B, Hid (B = w.heap.size) := ⟨_, rfl⟩
  obtain ⟨W3, HW3⟩ : ∃ W3, Hid (W3 = ((w.alloc (.cells #[.int .i64 s, .slice a n cap] 26)).alloc (.cells #[.int .i64 0, .slice none 0 0] 26)).alloc (.cells #[.int .i64 s, .slice none 0 0] 26)) := ⟨_, rfl⟩
  have HBW : Hid (Below w.heap.size w W3) := by rw [HW3.out]; exact below3 w _ _ _
  have HSW : Hid (W3.heap.size = B + 3) := by rw [HW3.out, HB.out]; show _ = _; simp
  have HG3 : Hid (Blk W3 B 2 (fun i => if i = 0 then .int .i64 s else .slice a n cap)) := by rw [HW3.out]; exact ((blk_two w B HB.out _ _ _).alloc _).alloc _
  have HR3 : Hid (Blk W3 (B + 1) 2 (fun i => if i = 0 then .int .i64 0 else .slice none 0 0)) := by rw [HW3.out]; exact (blk_two _ (B + 1) (by rw [HB.out]; simp) _ _ _).alloc _
  have HP3 : Hid (Blk W3 (B + 2) 2 (fun i => if i = 0 then .int .i64 s else .slice none 0 0)) := by rw [HW3.out]; exact blk_two _ (B + 2) (by rw [HB.out]; simp) _ _ _
  obtain ⟨OL, HOL⟩ : ∃ OL, Hid (OL = ownL s l wk nw) := ⟨_, rfl⟩
  obtain ⟨q, HQ⟩ : ∃ q : Ed → Bool, Hid (q = fun e => decide (e.1 ∈ OL)) := ⟨_, rfl⟩
  obtain ⟨c0, c1⟩ := blk_pair_cells HG3.out
  go_enter Tryd.func15, Tryd.ntmps15
  go_wp2_with fail
  rw [← HB.out, ← HW3.out]
  refine (owned_any lo hi s a n cap l wk nw W3 (HT.out.below HBW.out) (HA.out.below HBW.out HH.out) (Nat.le_trans HH.out HBW.out.size) HN.out hm).mono ?_
  rintro e w4 ⟨a4, n4, cap4, rfl, HN4, HRO, HB34⟩
  rw [← HOL.out] at HN4 HRO
  obtain ⟨M, HMM⟩ : ∃ M, Hid (w4.heap.size = M) := ⟨_, rfl⟩
  have HS4 : Hid (B + 3 ≤ M) := by have := HB34.out.size; have := HSW.out; have := HMM.out; show _ ≤ _; omega
  have HG4 : Hid (Blk w4 B 2 (fun i => if i = 0 then .int .i64 s else .slice a n cap)) := HG3.out.of_block (HB34.out.block _ HG3.out.lt)
  have HR4 : Hid (Blk w4 (B + 1) 2 (fun i => if i = 0 then .int .i64 0 else .slice none 0 0)) := HR3.out.of_block (HB34.out.block _ HR3.out.lt)
  have HP4 : Hid (Blk w4 (B + 2) 2 (fun i => if i = 0 then .int .i64 s else .slice none 0 0)) := HP3.out.of_block (HB34.out.block _ HP3.out.lt)
  have HB4 : Hid (Below w.heap.size w w4) := HBW.out.trans (HB34.out.mono HBW.out.size)
  have HRI : Hid (RowIn (B + 3) M w4 a4 OL) := by rw [← HMM.out, ← HSW.out]; exact HRO.out.toIn
  have hn4 : n4 ≤ 12 := by rw [← HN4.out, HOL.out]; exact ownL_len s l wk nw
  clear c0 c1 HW3 HG3 HR3 HP3 HRO HB34 HT HBW HSW
  obtain ⟨c0, c1⟩ := blk_pair_cells HG4.out
  go_wp2
  clear c0 c1
  go_loopw [21] (fun i wr => ∃ (k m : Nat) (a' : Option Addr) (cap' : Nat), i = .int .i64 k ∧ k ≤ n ∧ Hid (((l.take k).filter q).length = m) ∧ Hid (wr.ownsRow M 37 3 (.slice a' m cap') m (ecells ((l.take k).filter q))) ∧ Hid (Blk wr (B + 2) 2 (fun i => if i = 0 then .int .i64 s else .slice a' m cap')) ∧ Hid (Off (B + 2) M w4 wr)) (fun i _ => n - (intOf i).toNat)
  case atStart => exact ⟨0, 0, none, 0, rfl, by omega, rfl, World.ownsRow_nil _ _ _ _, HP4, KeptP.refl _ _⟩
  case round =>
    obtain ⟨k, m, a', cap', rfl, hk, HM, HOW, HG, HL⟩ := hrel
    have hmk : m ≤ k := by rw [← HM.out]; exact filter_len l k
    have hszr : M ≤ wr.heap.size := by rw [← HMM.out]; exact HL.out.size
    have HGR : Hid (Blk wr B 2 (fun i => if i = 0 then .int .i64 s else .slice a n cap)) := HL.out.blk HG4.out (by omega) (by have := HS4.out; omega)
    have HLR : Hid (Below w.heap.size w wr) := HB4.out.trans (HL.out.low (by have := HS4.out; have := HB.out; have := HMM.out; omega) (by have := HB.out; omega) (by have := HS4.out; have := HB.out; omega))
    by_cases hlt : k < n
    · have hlt1 : (k : Int) < (n : Int) := by omega
      have hlt0 : (0 : Int) ≤ (k : Int) := by omega
      have HER : Hid (EdgesIn lo hi wr a l) := HA.out.below HLR.out HH.out
      obtain ⟨b, o, rfl, _, _, hx⟩ := HER.out.edge (k := k) (by rw [HN.out]; exact hlt)
      obtain ⟨x, HXX⟩ : ∃ x : Ed, Hid (x = eat l k) := ⟨_, rfl⟩
      rw [← HXX.out] at hx
      have HST : Hid ((l.take (k + 1)).filter q = (l.take k).filter q ++ (if q x = true then [x] else [])) := by show _ = _; rw [filter_step (by rw [HN.out]; exact hlt), HXX.out]
      obtain ⟨x0, x1, x2⟩ := x
      obtain ⟨p0, p1, p2⟩ := hx
      dsimp only at p0 p1 p2
      obtain ⟨z, HZ⟩ : ∃ z : Bool, Hid (z = decide (x0 ∈ OL)) := ⟨_, rfl⟩
      have HQX : Hid (q (x0, x1, x2) = z) := by show _ = _; rw [HQ.out, HZ.out]
      rw [HQX.out] at HST
      obtain ⟨E, HE⟩ : ∃ E, Hid (E = wr.heap.size) := ⟨_, rfl⟩
      obtain ⟨W, HW⟩ : ∃ W, Hid (W = wr.alloc (.cells #[.int .i64 x0, .int .u8 x1, .int .i64 x2] 37)) := ⟨_, rfl⟩
      have HWB : Hid (Below wr.heap.size wr W) := by rw [HW.out]; exact below1 _ _
      obtain ⟨q0, q1, q2⟩ : W.cell? ⟨E, 0, none⟩ = some (.int .i64 x0) ∧ W.cell? ⟨E, 1, none⟩ = some (.int .u8 x1) ∧ W.cell? ⟨E, 2, none⟩ = some (.int .i64 x2) := by rw [HW.out]; exact box_cells wr _ _ _ 37 _ HE.out
      have HGW : Hid (Blk W (B + 2) 2 (fun i => if i = 0 then .int .i64 s else .slice a' m cap')) := HG.out.of_block (HWB.out.block _ HG.out.lt)
      have HOWW : Hid (W.ownsRow M 37 3 (.slice a' m cap') m (ecells ((l.take k).filter q))) := owns_after HOW.out HWB.out
      have HLWW : Hid (Off (B + 2) M w4 W) := HL.out.more (HWB.out.mono hszr)
      have HRW : Hid (RowIn (B + 3) M W a4 OL) := HRI.out.kept HLWW.out (by rw [HMM.out]; exact Nat.le_refl _) (fun k h1 h2 h => by rcases h with h | h <;> omega)
      have hszW : M ≤ W.heap.size := Nat.le_trans hszr HWB.out.size
      go_upto_region 6 with fail
      rw [← HE.out, ← HW.out]
      clear p0 p1 p2 HOW HG HL HWB HGR HLR HER
      go_wp2_with fail
      refine (containsI_any (B + 3) M a4 n4 cap4 OL x0 z W HRW.out HN4.out (by omega) HZ.out).mono ?_
      rintro e w5 ⟨rfl, rfl⟩
      rcases Bool.eq_false_or_eq_true z with hz | hz
      · subst hz
        have HST2 : Hid ((l.take (k + 1)).filter q = (l.take k).filter q ++ [(x0, x1, x2)]) := by show _ = _; rw [HST.out]; simp
        clear HST HW
        obtain ⟨t0, t1⟩ := blk_pair_cells HGW.out
        go_wp2_with (at_builtin; refine wpList_append_lies _ rfl (.tmp 30) (.tmp 32) 24 rfl M 37 i0 _ 3 24 Tryd.underlying24 hi0 hz0 hz1 hz2 rfl (by decide) _ m (ecells ((l.take k).filter q)) rfl (HOWW.out.alloc _) ⟨W.heap.size, 0, none⟩ 1 1 [.int .i64 x0, .int .u8 x1, .int .i64 x2] rfl rfl (news_three W _ _ _ _) (by simp [Value.oneCell']) (by decide) (by unfold maxLen; omega) (by omega) (by simp; omega) _ rfl ?_)
        intro g5 cap5 w6 hown5 hgrow5 _ _
        have HB6 : Hid (Below M W w6) := ((Below.refl M W).alloc hszW _).grown hgrow5 (by simp; omega) (fun k hk => (HOWW.out.lt k hk).1)
        have HO6 : Hid (w6.ownsRow M 37 3 (.slice (some ⟨g5, 0, none⟩) (m + 1) cap5) (m + 1) (ecells ((l.take (k + 1)).filter q))) := by rw [HST2.out, ecells_snoc]; exact hown5
        have HG6 : Hid (Blk w6 (B + 2) 2 (fun i => if i = 0 then .int .i64 s else .slice a' m cap')) := HGW.out.of_block (HB6.out.block _ (by have := HS4.out; omega))
        clear hown5 hgrow5 t0 t1 q0 q1 q2
        obtain ⟨u0, u1⟩ := blk_pair_cells HG6.out
        have uf1 := HG6.out.frozen 1
        go_wp2
        go_roundw
        case rel => exact ⟨k + 1, m + 1, some ⟨g5, 0, none⟩, cap5, by go_num, by omega, by show _ = _; rw [HST2.out, List.length_append, HM.out]; rfl, owns_set HO6.out (by have := HS4.out; omega), box_put HG6.out _, (HLWW.out.more HB6.out).put _⟩
        case measure => simp [intOf]; omega
      · subst hz
        have HST2 : Hid ((l.take (k + 1)).filter q = (l.take k).filter q) := by show _ = _; rw [HST.out]; simp
        clear HST
        go_wp2
        go_roundw
        case rel => exact ⟨k + 1, m, a', cap', by go_num, by omega, by rw [HST2.out]; exact HM, by rw [HST2.out]; exact HOWW, HGW, HLWW⟩
        case measure => simp [intOf]; omega
    · obtain rfl : k = n := by omega
      obtain ⟨PL, HPE⟩ : ∃ PL, Hid (PL = (l.take k).filter q) := ⟨_, rfl⟩
      rw [← HPE.out] at HM HOW
      have HPL : Hid (partL s l wk nw = PL) := by show _ = _; rw [HPE.out, HQ.out, ← HN.out, List.take_length, HOL.out]; exact (part_of_owned s l wk nw).symm
      obtain ⟨g0, g1⟩ := blk_pair_cells HG.out
      obtain ⟨r0, r1⟩ := blk_pair_cells (HL.out.blk HR4.out (by omega) (by have := HS4.out; omega))
      have rf0 := (HL.out.blk HR4.out (by omega) (by have := HS4.out; omega)).frozen 0
      have rf1 := (HL.out.blk HR4.out (by omega) (by have := HS4.out; omega)).frozen 1
      have HEO : Hid (EdgesOwn M wr.heap.size wr a' PL) := own_in' HOW.out HM.out
      have HLW : Hid (Below w.heap.size w wr) := HB4.out.trans (HL.out.low (by have := HS4.out; have := HB.out; have := HMM.out; omega) (by have := HB.out; omega) (by have := HS4.out; have := HB.out; omega))
      have HSM : Hid (B + 3 ≤ M) := by have := HS4.out; show _ ≤ _; omega
      have HMW : Hid (w4.heap.size ≤ wr.heap.size) := HL.out.size
      clear HOW
      go_wp2
      refine bodyPost_ret (v := .agg #[.int .i64 s, .slice a' m cap']) (by simp [results, Tryd.results15, go_sem, r0, r1]) rfl ?_
      refine ⟨a', m, cap', rfl, by rw [HPL.out]; exact HM, ?_, ?_⟩
      · rw [HPL.out]
        show EdgesOwn _ _ _ _ _
        exact ((HEO.out.setCell (b := B + 1) (j := 0) (by have := HSM.out; omega) _).setCell (b := B + 1) (j := 1) (by have := HSM.out; omega) _).wide (by have := HSM.out; have := HB.out; omega) (by simp)
      · show Below _ _ _
        exact (HLW.out.setCell (p := ⟨B + 1, 0, none⟩) (by show w.heap.size ≤ B + 1; have := HB.out; omega) _).setCell (p := ⟨B + 1, 1, none⟩) (by show w.heap.size ≤ B + 1; have := HB.out; omega) _

end Go.Proofs.YtigojleieihdoaaDoor
