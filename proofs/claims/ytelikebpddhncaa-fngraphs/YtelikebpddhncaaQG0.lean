import Derived.Test.YtelikebpddhncaaGSrt
import Derived.Test.YtelikebpddhncaaGCln
import Derived.Test.YtelikebpddhncaaGOk
import Derived.Test.YtelikebpddhncaaGTrS
import Derived.Test.YtelikebpddhncaaDrE
import Derived.Deep.RegionHeld3
import Derived.Test.YtelikebpddhncaaEdC
import Derived.Laws.StructEq
import Derived.Shelf.Sort.Plain
import Derived.Shelf.Slices.In.SortNone
import Derived.Shelf.Slices.CompactI
import Derived.Test.YtelikebpddhncaaProg
import Derived.Test.YtelikebpddhncaaGPut
/-
  impl.Turned.
-/
namespace Go.Proofs.Ytelikebpddhncaa
open Go.RowKit

theorem own_in {B n cap : Nat} {w : World} {a : Option Addr} {l : List Ed} (h : w.ownsRow B 42 3 (.slice a n cap) n (ecells l)) (hn : l.length = n) : EdgesOwn B w.heap.size w a l := by
  obtain ⟨a2, cap2, hv, h2⟩ := edges_own h hn
  simp only [Value.slice.injEq] at hv
  rw [hv.1]; exact h2
theorem map_of_at {l L : List Ed} {n : Nat} (hl : l.length = n) (hL : L.length = n) (h : ∀ i, i < n → eat L i = turnE (eat l i)) : L = l.map turnE := by
  refine eat_ext (by simp [hL, hl]) fun i hi => ?_
  have hi' : i < l.length := by omega
  rw [h i (by omega), eat_get (l := l.map turnE) (by simpa using hi'), eat_get hi', List.getElem_map]

set_option maxHeartbeats 4000000 in
set_option maxRecDepth 100000 in
theorem turned_any (lo hi : Nat) (s : Int) (a : Option Addr) (n cap : Nat) (l : List Ed) (w : World) (ha : EdgesIn lo hi w a l) (hh : hi ≤ w.heap.size) (hn : l.length = n) (hm : n ≤ 1048576) :
    Calls Try.prog 32 #[gv s a n cap] w fun e w' => ∃ (a' : Option Addr) (n' cap' : Nat), e = .returned (gv s a' n' cap') ∧ Hid ((gturn s l).length = n') ∧ Hid (EdgesOwn w.heap.size w'.heap.size w' a' (gturn s l)) ∧ Hid (Below w.heap.size w w') := by
  have HN : Hid (l.length = n) := hn
  have HA : Hid (EdgesIn lo hi w a l) := ha
  have HH : Hid (hi ≤ w.heap.size) := hh
  obtain ⟨r, HS⟩ : ∃ r : Bool, Hid (r = okG s l) := ⟨_, rfl⟩
  clear ha hh hn
  obtain ⟨B, HB⟩ : ∃ B, Hid (B = w.heap.size) := ⟨_, rfl⟩
  go_enter Try.func32, Try.ntmps32
  go_wp2_with fail
  refine (newGraph_any lo hi s a n cap l _ (HA.out.below (below2 w _ _) HH.out) (by have := HH.out; simp; omega) HN.out hm).mono ?_
  rintro e w1 ⟨a1, cap1, rfl, HO1, hb1⟩
  have HG1 : Hid (Blk w1 B 2 (fun i => if i = 0 then .int .i64 s else .slice a n cap)) := ((blk_two w B HB.out _ _ _).alloc _).of_block (hb1.out.block B (by rw [HB.out]; simp; omega))
  have HR1 : Hid (Blk w1 (B + 1) 2 (fun i => if i = 0 then .int .i64 0 else .slice none 0 0)) := (blk_two _ (B + 1) (by rw [HB.out]; simp) _ _ _).of_block (hb1.out.block (B + 1) (by rw [HB.out]; simp))
  have HB1 : Hid (Below w.heap.size w w1) := (below2 w _ _).trans (hb1.out.mono (by simp; omega))
  have HS1 : Hid (B + 1 + 1 ≤ w1.heap.size) := by have := hb1.out.size; rw [HB.out]; simpa [Hid] using this
  have HE1 : Hid (EdgesOwn (B + 1 + 1) w1.heap.size w1 a1 l) := by
    have h := own_in HO1.out HN.out
    simp only [World.size_alloc] at h
    rw [HB.out]; exact h
  clear hb1 HO1
  rw [← HB.out]
  obtain ⟨P, HP⟩ : ∃ P, Hid (P = w1.heap.size) := ⟨_, rfl⟩
  obtain ⟨W, HW⟩ : ∃ W, Hid (W = w1.alloc (.cells #[.int .i64 s, .slice a1 n cap1] 37)) := ⟨_, rfl⟩
  have HWB : Hid (Below w1.heap.size w1 W) := by rw [HW.out]; exact below1 _ _
  have HPW : Hid (P < W.heap.size) := by rw [HW.out, HP.out]; show _ < _; simp
  have HGW : Hid (Blk W B 2 (fun i => if i = 0 then .int .i64 s else .slice a n cap)) := HG1.out.of_block (HWB.out.block _ HG1.out.lt)
  have HRW : Hid (Blk W (B + 1) 2 (fun i => if i = 0 then .int .i64 0 else .slice none 0 0)) := HR1.out.of_block (HWB.out.block _ HR1.out.lt)
  have HTW : Hid (Blk W P 2 (fun i => if i = 0 then .int .i64 s else .slice a1 n cap1)) := by rw [HW.out]; exact blk_two w1 P HP.out _ _ _
  have HEW : Hid (EdgesOwn (B + 1 + 1) P W a1 l) := by rw [HP.out]; exact HE1.out.below HWB.out (Nat.le_refl _)
  have HLW : Hid (Below w.heap.size w W) := HB1.out.trans (HWB.out.mono HB1.out.size)
  obtain ⟨c0, c1⟩ := blk_pair_cells HGW.out
  have hBP : B + 1 < P := by have := HS1.out; rw [HP.out]; omega
  go_upto_region 2 with fail
  rw [← HP.out, ← HW.out]
  clear HW HG1 HR1 HE1
  go_wp2_with fail
  refine (graphOk_any lo hi s a n cap l r W (HA.out.below HLW.out HH.out) (Nat.le_trans HH.out HLW.out.size) HN.out hm HS.out).mono ?_
  rintro e w2 ⟨rfl, HB2⟩
  have HG2 : Hid (Blk w2 B 2 (fun i => if i = 0 then .int .i64 s else .slice a n cap)) := HGW.out.of_block (HB2.out.block _ HGW.out.lt)
  have HR2 : Hid (Blk w2 (B + 1) 2 (fun i => if i = 0 then .int .i64 0 else .slice none 0 0)) := HRW.out.of_block (HB2.out.block _ HRW.out.lt)
  have HT2 : Hid (Blk w2 P 2 (fun i => if i = 0 then .int .i64 s else .slice a1 n cap1)) := HTW.out.of_block (HB2.out.block _ HTW.out.lt)
  have HE2 : Hid (EdgesOwn (B + 1 + 1) P w2 a1 l) := HEW.out.below HB2.out (Nat.le_of_lt HPW.out)
  have HL2 : Hid (Below w.heap.size w w2) := HLW.out.trans (HB2.out.mono HLW.out.size)
  have HP2 : Hid (P < w2.heap.size) := Nat.lt_of_lt_of_le HPW.out HB2.out.size
  clear c0 c1 HGW HRW HTW HEW HLW HB2 HWB HPW
  rcases Bool.eq_false_or_eq_true r with hs | hs
  · subst hs
    have HO : Hid (okG s l = true) := HS.out.symm
    have HT : Hid (gturn s l = turnL l) := by show _ = _; unfold gturn; rw [if_pos HO.out]
    obtain ⟨c0, c1⟩ := blk_pair_cells HG2.out
    go_wp2
    clear c0 c1
    go_loopw [15] (fun i wr => ∃ k : Nat, i = .int .i64 k ∧ k ≤ n ∧ Hid (∃ L : List Ed, L.length = n ∧ EdgesOwn (B + 1 + 1) P wr a1 L ∧ ∀ j, j < k → eat L j = turnE (eat l j)) ∧ Hid (KeptP (fun c => B + 1 + 1 ≤ c ∧ c < P) w2 wr)) (fun i _ => n - (intOf i).toNat)
    case atStart => exact ⟨0, rfl, by omega, ⟨l, HN.out, HE2.out, fun j hj => absurd hj (by omega)⟩, KeptP.refl _ _⟩
    case round =>
      obtain ⟨k, rfl, hk, HP', HK⟩ := hrel
      have HGR : Hid (Blk wr B 2 (fun i => if i = 0 then .int .i64 s else .slice a n cap)) := HK.out.blk HG2.out (by omega)
      have HRR : Hid (Blk wr (B + 1) 2 (fun i => if i = 0 then .int .i64 0 else .slice none 0 0)) := HK.out.blk HR2.out (by omega)
      have HTR : Hid (Blk wr P 2 (fun i => if i = 0 then .int .i64 s else .slice a1 n cap1)) := HK.out.blk HT2.out (by omega)
      have HLR : Hid (Below w.heap.size w wr) := HL2.out.trans (HK.out.to_below HL2.out.size (fun k hk => by rw [← HB.out]; omega))
      by_cases hlt : k < n
      · have hlt1 : (k : Int) < (n : Int) := by omega
        have hlt0 : (0 : Int) ≤ (k : Int) := by omega
        obtain ⟨b, o, rfl, _, _, hx⟩ := (HA.out.below HLR.out HH.out).edge (k := k) (by rw [HN.out]; exact hlt)
        obtain ⟨x, HXX⟩ : ∃ x : Ed, Hid (x = eat l k) := ⟨_, rfl⟩
        rw [← HXX.out] at hx
        obtain ⟨L, hL, hLO, hall⟩ := HP'.out
        obtain ⟨g, rfl, hg1, hg2, hblk⟩ : ∃ b, a1 = some ⟨b, 0, none⟩ ∧ B + 1 + 1 ≤ b ∧ b < P ∧ EBlk wr b L := by
          rcases hLO with h | h
          · rw [h] at hL; simp at hL; omega
          · exact h
        have HXG : Hid (B + 1 + 1 ≤ g ∧ g < P) := ⟨hg1, hg2⟩
        have HALL : Hid (∀ j, j < k → eat L j = turnE (eat l j)) := hall
        have HLL : Hid (L.length = n) := hL
        obtain ⟨x0, x1, x2⟩ := x
        obtain ⟨p0, p1, p2⟩ := hx
        dsimp only at p0 p1 p2
        obtain ⟨E, HE⟩ : ∃ E, Hid (E = wr.heap.size) := ⟨_, rfl⟩
        obtain ⟨V, HV⟩ : ∃ V, Hid (V = wr.alloc (.cells #[.int .i64 x0, .int .u8 x1, .int .i64 x2] 42)) := ⟨_, rfl⟩
        have HVB : Hid (Below wr.heap.size wr V) := by rw [HV.out]; exact below1 _ _
        obtain ⟨q0, q1, q2⟩ : V.cell? ⟨E, 0, none⟩ = some (.int .i64 x0) ∧ V.cell? ⟨E, 1, none⟩ = some (.int .u8 x1) ∧ V.cell? ⟨E, 2, none⟩ = some (.int .i64 x2) := by rw [HV.out]; exact box_cells wr _ _ _ 42 _ HE.out
        have HBV : Hid (EBlk V g L) := Blk.of_block hblk (HVB.out.block _ (Blk.lt hblk))
        have HTV : Hid (Blk V P 2 (fun i => if i = 0 then .int .i64 s else .slice (some ⟨g, 0, none⟩) n cap1)) := HTR.out.of_block (HVB.out.block _ HTR.out.lt)
        obtain ⟨t0, t1⟩ := blk_pair_cells HTV.out
        have hd0 := Blk.cell HBV.out (i := k * 3) (by have := HLL.out; omega)
        have hd1 := Blk.cell HBV.out (i := k * 3 + 1) (by have := HLL.out; omega)
        have hd2 := Blk.cell HBV.out (i := k * 3 + 2) (by have := HLL.out; omega)
        have hf0 := Blk.frozen HBV.out (k * 3)
        have hf1 := Blk.frozen HBV.out (k * 3 + 1)
        have hf2 := Blk.frozen HBV.out (k * 3 + 2)
        have hgE : g ≠ E := by have := Blk.lt hblk; rw [HE.out]; omega
        have HKV : Hid (KeptP (fun c => B + 1 + 1 ≤ c ∧ c < P) w2 V) := HK.out.trans (KeptP.of_below HVB.out (fun k hk _ => hk))
        go_upto_region 7 with fail
        rw [← HE.out, ← HV.out]
        clear p0 p1 p2 hblk hall hL hLO HV hg1 hg2
        go_wp2
        go_roundw
        case rel =>
          have hst := HBV.out.put (k := k) (by rw [HLL.out]; exact hlt) (x2, x1, x0)
          refine ⟨k + 1, by go_num, by omega, ⟨L.set k (x2, x1, x0), by rw [List.length_set]; exact HLL.out, .inr ⟨g, rfl, HXG.out.1, HXG.out.2, by simpa using hst⟩, fun j hj => ?_⟩, ?_⟩
          · rw [eat_set (by rw [HLL.out]; exact hlt)]
            by_cases e : j = k
            · subst e; rw [if_pos rfl, ← HXX.out]; rfl
            · rw [if_neg e]; exact HALL.out j (by omega)
          · exact ((HKV.out.setCell HXG.out _).setCell HXG.out _).setCell HXG.out _
        case measure => simp [intOf]; omega
      · obtain rfl : k = n := by omega
        obtain ⟨L, hL, hLO, hall⟩ := HP'.out
        have HLM : Hid (L = l.map turnE) := map_of_at HN.out hL hall
        have HLO : Hid (EdgesOwn (B + 1 + 1) P wr a1 L) := hLO
        have HLL : Hid (L.length = k) := hL
        obtain ⟨t0, t1⟩ := blk_pair_cells HTR.out
        have HPR : Hid (P < wr.heap.size) := HTR.out.lt
        clear hL hLO hall
        go_wp2_with fail
        refine (sortOwn_any (B + 1 + 1) P k cap1 a1 L wr HLO.out (Nat.le_of_lt HPR.out) HLL.out hm).mono ?_
        rintro e w3 ⟨rfl, L', HL', HE3, HK3⟩
        have HLT : Hid (L' = turnL l) := turnL_is (okG_iff.1 HO.out).2.2.2 (by rw [← HLM.out]; exact HL'.out.1) HL'.out.2
        have HR3 : Hid (Blk w3 (B + 1) 2 (fun i => if i = 0 then .int .i64 0 else .slice none 0 0)) := HK3.out.blk HRR.out (by omega)
        have HT3 : Hid (Blk w3 P 2 (fun i => if i = 0 then .int .i64 s else .slice a1 k cap1)) := HK3.out.blk HTR.out (by omega)
        have HL3 : Hid (Below w.heap.size w w3) := HLR.out.trans (HK3.out.to_below HLR.out.size (fun k hk => by rw [← HB.out]; omega))
        have HP3 : Hid (P ≤ w3.heap.size) := Nat.le_trans (Nat.le_of_lt HPR.out) HK3.out.size
        obtain ⟨u0, u1⟩ := blk_pair_cells HT3.out
        obtain ⟨r0, r1⟩ := blk_pair_cells HR3.out
        have rf0 := HR3.out.frozen 0
        have rf1 := HR3.out.frozen 1
        have hne : B + 1 ≠ P := by omega
        clear t0 t1
        go_wp2
        refine bodyPost_ret (v := .agg #[.int .i64 s, .slice a1 k cap1]) (by simp [results, Try.results32, go_sem, r0, r1]) rfl ?_
        refine ⟨a1, k, cap1, rfl, by show _ = _; rw [HT.out, turnL_len (okG_iff.1 HO.out).2.2.2]; exact HN.out, ?_, ?_⟩
        · rw [HT.out, ← HLT.out]
          have h := ((HE3.out.setCell (b := B + 1) (j := 0) (by omega) (.int .i64 s)).setCell (b := B + 1) (j := 1) (by omega) (.slice a1 k cap1))
          exact h.wide (by rw [← HB.out]; omega) (by simpa using HP3.out)
        · exact (HL3.out.setCell (by rw [HB.out]; simp) _).setCell (by rw [HB.out]; simp) _
  · subst hs
    have HT : Hid (gturn s l = l) := by show _ = _; unfold gturn; rw [← HS.out]; rfl
    obtain ⟨t0, t1⟩ := blk_pair_cells HT2.out
    obtain ⟨r0, r1⟩ := blk_pair_cells HR2.out
    have rf0 := HR2.out.frozen 0
    have rf1 := HR2.out.frozen 1
    have hne : B + 1 ≠ P := by omega
    go_wp2
    refine bodyPost_ret (v := .agg #[.int .i64 s, .slice a1 n cap1]) (by simp [results, Try.results32, go_sem, r0, r1]) rfl ?_
    refine ⟨a1, n, cap1, rfl, by show _ = _; rw [HT.out]; exact HN.out, ?_, ?_⟩
    · rw [HT.out]
      have h := ((HE2.out.setCell (b := B + 1) (j := 0) (by omega) (.int .i64 s)).setCell (b := B + 1) (j := 1) (by omega) (.slice a1 n cap1))
      exact h.wide (by rw [← HB.out]; omega) (by simpa using Nat.le_of_lt HP2.out)
    · exact (HL2.out.setCell (by rw [HB.out]; simp) _).setCell (by rw [HB.out]; simp) _
end Go.Proofs.Ytelikebpddhncaa

/-
  spec.GraphAdd.
-/
namespace Go.Proofs.Ytelikebpddhncaa
open Go.RowKit

set_option maxHeartbeats 4000000 in
set_option maxRecDepth 100000 in
theorem specGAdd_any (lo hi : Nat) (s : Int) (a : Option Addr) (n cap : Nat) (l : List Ed) (x : Ed) (w : World) (ha : EdgesIn lo hi w a l) (hh : hi ≤ w.heap.size) (hn : l.length = n) (hm : n ≤ 1048576) :
    Calls Try.prog 46 #[gv s a n cap, ev x] w fun e w' => ∃ (a' : Option Addr) (n' cap' : Nat) (ok : Bool), e = .returned (.tuple #[gv s a' n' cap', .bool ok]) ∧ Hid (ok = gaddOk s l x) ∧ Hid ((gaddL s l x).length = n') ∧ Hid (EdgesOwn w.heap.size w'.heap.size w' a' (gaddL s l x)) ∧ Hid (Below w.heap.size w w') := by
  have HN : Hid (l.length = n) := hn
  have HA : Hid (EdgesIn lo hi w a l) := ha
  have HH : Hid (hi ≤ w.heap.size) := hh
  obtain ⟨r, HS⟩ : ∃ r : Bool, Hid (r = okG s l) := ⟨_, rfl⟩
  obtain ⟨r2, HS2⟩ : ∃ r : Bool, Hid (r = okG s (putE l x)) := ⟨_, rfl⟩
  clear ha hh hn
  obtain ⟨B, HB⟩ : ∃ B, Hid (B = w.heap.size) := ⟨_, rfl⟩
  obtain ⟨PL, HPL⟩ : ∃ PL, Hid (PL = putE l x) := ⟨_, rfl⟩
  have HGA : Hid (gaddOk s l x = (r && r2) ∧ (gaddL s l x = if (r && r2) = true then PL else l)) :=
    ⟨by unfold gaddOk; rw [HS.out, HS2.out], by unfold gaddL gaddOk; rw [HS.out, HS2.out, HPL.out]⟩
  have HS2' : Hid (r2 = okG s PL) := by rw [HPL.out]; exact HS2
  have HPLN : Hid (PL.length ≤ n + 1) := by rw [HPL.out, ← HN.out]; exact putE_len l x
  have HPUT : Hid (∀ w0, Below w.heap.size w w0 → Calls Try.prog 83 #[.slice a n cap, ev x] w0 fun r w' => ∃ (a' : Option Addr) (n' cap' : Nat), r = .returned (.slice a' n' cap') ∧ Hid (PL.length = n') ∧ Hid (EdgesOwn w0.heap.size w'.heap.size w' a' PL) ∧ Hid (Below w0.heap.size w0 w')) := fun w0 h =>
    (l04Put_any lo hi a n cap l x w0 (HA.out.below h HH.out) (Nat.le_trans HH.out h.size) HN.out (by omega)).mono fun _ _ ⟨a', n', cap', h1, h2, h3, h4⟩ => ⟨a', n', cap', h1, by rw [HPL.out]; exact h2, by rw [HPL.out]; exact own_in h3.out h2.out, h4⟩
  clear HPL HS2
  obtain ⟨x0, x1, x2⟩ := x
  go_enter Try.func46, Try.ntmps46
  go_wp2_with fail
  obtain ⟨W, HW⟩ : ∃ W, Hid (W = ((w.alloc (.cells #[.int .i64 s, .slice a n cap] 37)).alloc (.cells #[.int .i64 x0, .int .u8 x1, .int .i64 x2] 42)).alloc (.cells #[.int .i64 0, .slice none 0 0] 37)) := ⟨_, rfl⟩
  rw [← HW.out, ← HB.out]
  have HG : Hid (Blk W B 2 (fun i => if i = 0 then .int .i64 s else .slice a n cap)) := by rw [HW.out]; exact ((blk_two w B HB.out _ _ _).alloc _).alloc _
  have HX : Hid (Blk W (B + 1) 3 (fun i => if i = 0 then .int .i64 x0 else if i = 1 then .int .u8 x1 else .int .i64 x2)) := by rw [HW.out]; exact (blk_three _ (B + 1) (by rw [HB.out]; simp) _ _ _ _).alloc _
  have HR : Hid (Blk W (B + 1 + 1) 2 (fun i => if i = 0 then .int .i64 0 else .slice none 0 0)) := by rw [HW.out]; exact blk_two _ (B + 1 + 1) (by rw [HB.out]; simp) _ _ _
  have HL : Hid (Below w.heap.size w W) := by rw [HW.out]; exact below3 w _ _ _
  obtain ⟨c0, c1⟩ := blk_pair_cells HG.out
  obtain ⟨d0, d1, d2⟩ := blk_three_set HX.out
  have HKS : Hid (∀ w', Below W.heap.size W w' → ((w'.cell? ⟨B, 0, none⟩ = some (.int .i64 s) ∧ w'.cell? ⟨B, 1, none⟩ = some (.slice a n cap)) ∧ (w'.cell? ⟨B + 1, 0, none⟩ = some (.int .i64 x0) ∧ w'.cell? ⟨B + 1, 1, none⟩ = some (.int .u8 x1) ∧ w'.cell? ⟨B + 1, 2, none⟩ = some (.int .i64 x2)))) := fun w' h => ⟨⟨cell_below c0 h (lt_of_cell c0), cell_below c1 h (lt_of_cell c1)⟩, ⟨cell_below d0 h (lt_of_cell d0), cell_below d1 h (lt_of_cell d1), cell_below d2 h (lt_of_cell d2)⟩⟩
  have HLR : Hid (B + 1 + 1 < W.heap.size) := HR.out.lt
  clear HW
  refine wp_region_held_drew (S := fun w' => (w'.cell? ⟨B, 0, none⟩ = some (.int .i64 s) ∧ w'.cell? ⟨B, 1, none⟩ = some (.slice a n cap)) ∧ (w'.cell? ⟨B + 1, 0, none⟩ = some (.int .i64 x0) ∧ w'.cell? ⟨B + 1, 1, none⟩ = some (.int .u8 x1) ∧ w'.cell? ⟨B + 1, 2, none⟩ = some (.int .i64 x2))) (by kernel_rfl) ⟨⟨c0, c1⟩, ⟨d0, d1, d2⟩⟩ (fun hHeld => ?_)
  clear c0 c1 d0 d1 d2
  refine wpAnyH_take (i := 0) (oi := { dst := some 7, op := Go.Op.fieldAddr 37 (Go.Operand.tmp 2) 0, type := 0, pos := "l04_graph.go:50", after := #[], guard := none }) (v := ?_) rfl (by kernel_rfl) (by kernel_rfl) (by kernel_rfl) (fun _ _ _ h => h) (Or.inl ⟨by kernel_rfl, ?_⟩) (by assumption) ?_
  rotate_left
  · intro w hSw; (try dsimp only at hSw); go_simp; try with_reducible rfl
  simp only [Act.put, List.setIfInBounds_toArray, List.set_cons_zero, List.set_cons_succ]
  refine wpAnyH_take (i := 1) (oi := { dst := some 8, op := Go.Op.load 3 (Go.Operand.tmp 7), type := 3, pos := "l04_graph.go:50", after := #[{ on := 0, ground := Go.Ground.data }], guard := none }) (v := ?_) rfl (by kernel_rfl) (by kernel_rfl) (by kernel_rfl) (fun _ _ _ h => h) (Or.inl ⟨by kernel_rfl, ?_⟩) (by assumption) ?_
  rotate_left
  · intro w hSw; (try dsimp only at hSw); go_simp; try with_reducible rfl
  simp only [Act.put, List.setIfInBounds_toArray, List.set_cons_zero, List.set_cons_succ]
  refine wpAnyH_take (i := 2) (oi := { dst := some 9, op := Go.Op.fieldAddr 37 (Go.Operand.tmp 2) 1, type := 0, pos := "l04_graph.go:50", after := #[], guard := none }) (v := ?_) rfl (by kernel_rfl) (by kernel_rfl) (by kernel_rfl) (fun _ _ _ h => h) (Or.inl ⟨by kernel_rfl, ?_⟩) (by assumption) ?_
  rotate_left
  · intro w hSw; (try dsimp only at hSw); go_simp; try with_reducible rfl
  simp only [Act.put, List.setIfInBounds_toArray, List.set_cons_zero, List.set_cons_succ]
  refine wpAnyH_take (i := 3) (oi := { dst := some 10, op := Go.Op.load 35 (Go.Operand.tmp 9), type := 35, pos := "l04_graph.go:50", after := #[{ on := 2, ground := Go.Ground.data }], guard := none }) (v := ?_) rfl (by kernel_rfl) (by kernel_rfl) (by kernel_rfl) (fun _ _ _ h => h) (Or.inl ⟨by kernel_rfl, ?_⟩) (by assumption) ?_
  rotate_left
  · intro w hSw; (try dsimp only at hSw); go_simp; try with_reducible rfl
  simp only [Act.put, List.setIfInBounds_toArray, List.set_cons_zero, List.set_cons_succ]
  refine wpAnyH_take (i := 4) (oi := { dst := some 11, op := Go.Op.load 42 (Go.Operand.tmp 3), type := 42, pos := "l04_graph.go:50", after := #[], guard := none }) (v := ?_) rfl (by kernel_rfl) (by kernel_rfl) (by kernel_rfl) (fun _ _ _ h => h) (Or.inl ⟨by kernel_rfl, ?_⟩) (by assumption) ?_
  rotate_left
  · intro w hSw; (try dsimp only at hSw); go_simp; try with_reducible rfl
  simp only [Act.put, List.setIfInBounds_toArray, List.set_cons_zero, List.set_cons_succ]
  refine wpAnyH_ready (rs := [5, 7]) (by kernel_rfl) (by simp) ?_
  refine AllReadyH.cons (o := { dst := some 12, op := Go.Op.call { callee := Go.Callee.value (Go.Operand.func 83), args := #[Go.Operand.tmp 10, Go.Operand.tmp 11], argTypes := #[35, 42] }, type := 35, pos := "l04_graph.go:50", after := #[{ on := 3, ground := Go.Ground.data }, { on := 4, ground := Go.Ground.data }], guard := none }) rfl (fun K hK => ?_) ?_
  · go_simp
    go_wp2_with (go_at_call 83; refine (HPUT.out _ (HL.out.trans (((Below.refl W.heap.size W).drew).mono HL.out.size))).mono ?_; rintro e w1 ⟨a1, m1, cap1, rfl, HM1, HE1, C1⟩)
    have HB1 : Hid (Below W.heap.size W w1) := ((Below.refl W.heap.size W).drew).trans (C1.out.mono ((Below.refl W.heap.size W).drew).size)
    have hk1 := HKS.out _ HB1.out
    have HE1' : Hid (EdgesOwn W.heap.size w1.heap.size w1 a1 PL) := HE1
    clear HE1 C1
    refine hK.out _ _ hk1 (fun hHeld => ?_)
    clear hK K
    try simp only [Act.put, List.setIfInBounds_toArray, List.set_cons_zero, List.set_cons_succ]
    refine wpAnyH_take (i := 6) (oi := { dst := some 13, op := Go.Op.build 37 #[(0, Go.Operand.tmp 8), (1, Go.Operand.tmp 12)], type := 37, pos := "l04_graph.go:50", after := #[{ on := 1, ground := Go.Ground.data }, { on := 5, ground := Go.Ground.data }], guard := none }) (v := ?_) rfl (by kernel_rfl) (by kernel_rfl) (by kernel_rfl) (fun _ _ _ h => h) (Or.inl ⟨by kernel_rfl, ?_⟩) (by assumption) ?_
    rotate_left
    · intro w hSw; (try dsimp only at hSw); go_simp; try with_reducible rfl
    simp only [Act.put, List.setIfInBounds_toArray, List.set_cons_zero, List.set_cons_succ]
    refine wpAnyH_ready (rs := [7]) (by kernel_rfl) (by simp) ?_
    refine AllReadyH.cons (o := { dst := some 6, op := Go.Op.alloc 37, type := 0, pos := "l04_graph.go:50", after := #[], guard := none }) rfl (fun K hK => ?_) ?_
    · go_simp
      have HBA : Hid (Below W.heap.size W (w1.alloc (.cells #[.int .i64 0, .slice none 0 0] 37))) := HB1.out.alloc HB1.out.size _
      have hka := HKS.out _ HBA.out
      refine hK.out _ _ hka (fun hHeld => ?_)
      clear hK K
      try simp only [Act.put, List.setIfInBounds_toArray, List.set_cons_zero, List.set_cons_succ]
      refine wpAnyH_ready (rs := [8]) (by kernel_rfl) (by simp) ?_
      refine AllReadyH.cons (o := { dst := none, op := Go.Op.store 37 (Go.Operand.tmp 6) (Go.Operand.tmp 13), type := 0, pos := "l04_graph.go:50", after := #[{ on := 7, ground := Go.Ground.data }, { on := 6, ground := Go.Ground.data }, { on := 5, ground := Go.Ground.chain }, { on := 0, ground := Go.Ground.phase }, { on := 1, ground := Go.Ground.phase }, { on := 2, ground := Go.Ground.phase }, { on := 3, ground := Go.Ground.phase }, { on := 4, ground := Go.Ground.phase }, { on := 5, ground := Go.Ground.phase }, { on := 6, ground := Go.Ground.phase }, { on := 7, ground := Go.Ground.phase }], guard := none }) rfl (fun K hK => ?_) ?_
      · go_simp
        have HBS : Hid (Below W.heap.size W (w1.alloc (.cells #[.int .i64 s, .slice a1 m1 cap1] 37))) := HB1.out.alloc HB1.out.size _
        have hks := HKS.out _ HBS.out
        have HT0 : Hid (Blk (w1.alloc (.cells #[.int .i64 s, .slice a1 m1 cap1] 37)) w1.heap.size 2 (fun i => if i = 0 then .int .i64 s else .slice a1 m1 cap1)) := blk_two w1 _ rfl _ _ _
        have HE0 : Hid (EdgesOwn W.heap.size w1.heap.size (w1.alloc (.cells #[.int .i64 s, .slice a1 m1 cap1] 37)) a1 PL) := HE1'.out.below (below1 w1 _) (Nat.le_refl _)
        have HSZ : Hid (w1.heap.size ≤ (w1.alloc (.cells #[.int .i64 s, .slice a1 m1 cap1] 37)).heap.size) := by show _ ≤ _; simp
        have HWP : Hid (W.heap.size ≤ w1.heap.size) := HB1.out.size
        refine hK.out _ _ hks (fun hHeld => ?_)
        clear hK K
        try simp only [Act.put, List.setIfInBounds_toArray, List.set_cons_zero, List.set_cons_succ]
        refine wpAnyH_done (by kernel_rfl) ?_ _
        clear hHeld
        obtain ⟨V, HV⟩ : ∃ V, Hid (V = (w1.alloc (.cells #[.int .i64 s, .slice a1 m1 cap1] 37))) := ⟨_, rfl⟩
        rw [← HV.out] at HBS HT0 HE0 HSZ
        obtain ⟨Lo, HLo⟩ : ∃ L, Hid (L = W.heap.size) := ⟨_, rfl⟩
        obtain ⟨Hi, HHi⟩ : ∃ L, Hid (L = w1.heap.size) := ⟨_, rfl⟩
        have HLo1 : Hid (W.heap.size ≤ Lo) := by rw [HLo.out]; show _ ≤ _; omega
        rw [← HLo.out, ← HHi.out] at HE0
        rw [← HHi.out] at HSZ
        obtain ⟨P, HP⟩ : ∃ P, Hid (P = w1.heap.size) := ⟨_, rfl⟩
        rw [← HP.out] at HT0
        have HWP' : Hid (W.heap.size ≤ P) := by rw [HP.out]; exact HWP.out
        go_upto_region 2 with fail
        rw [← HV.out, ← HP.out]
        clear HWP HV HP HLo HHi HB1 HE1' hk1
        have HG_V : Hid (Blk V B 2 (fun i => if i = 0 then .int .i64 s else .slice a n cap)) := HG.out.of_block (HBS.out.block _ HG.out.lt)
        have HR_V : Hid (Blk V (B + 1 + 1) 2 (fun i => if i = 0 then .int .i64 0 else .slice none 0 0)) := HR.out.of_block (HBS.out.block _ HR.out.lt)
        have HL_V : Hid (Below w.heap.size w V) := HL.out.trans (HBS.out.mono HL.out.size)
        obtain ⟨c0, c1⟩ := blk_pair_cells HG_V.out
        go_wp2_with fail
        refine (specGOk_any lo hi s a n cap l r V (HA.out.below HL_V.out HH.out) (Nat.le_trans HH.out HL_V.out.size) HN.out (by omega) HS.out).mono ?_
        rintro e w2 ⟨rfl, HB2⟩
        have HG_w2 : Hid (Blk w2 B 2 (fun i => if i = 0 then .int .i64 s else .slice a n cap)) := HG_V.out.of_block (HB2.out.block _ HG_V.out.lt)
        have HR_w2 : Hid (Blk w2 (B + 1 + 1) 2 (fun i => if i = 0 then .int .i64 0 else .slice none 0 0)) := HR_V.out.of_block (HB2.out.block _ HR_V.out.lt)
        have HL_w2 : Hid (Below w.heap.size w w2) := HL_V.out.trans (HB2.out.mono HL_V.out.size)
        have HT_w2 : Hid (Blk w2 P 2 (fun i => if i = 0 then .int .i64 s else .slice a1 m1 cap1)) := HT0.out.of_block (HB2.out.block _ HT0.out.lt)
        have HE_w2 : Hid (EdgesOwn Lo Hi w2 a1 PL) := HE0.out.below HB2.out HSZ.out
        have HSZ2 : Hid (Hi ≤ w2.heap.size) := Nat.le_trans HSZ.out HB2.out.size
        clear c0 c1 HB2 HG_V HR_V HL_V HT0 HE0 HSZ
        rcases Bool.eq_false_or_eq_true r with hs | hs
        · subst hs
          obtain ⟨z0, z1⟩ := blk_pair_cells HT_w2.out
          have hm1 : m1 ≤ 1048576 := by have h40 := (okG_size HS.out.symm).2.2; rw [HN.out] at h40; have := HPLN.out; have := HM1.out; omega
          go_wp2_with fail
          refine (specGOk_any Lo Hi s a1 m1 cap1 PL r2 w2 HE_w2.out.toIn HSZ2.out HM1.out hm1 HS2'.out).mono ?_
          rintro e w3 ⟨rfl, HB3⟩
          have HG_w3 : Hid (Blk w3 B 2 (fun i => if i = 0 then .int .i64 s else .slice a n cap)) := HG_w2.out.of_block (HB3.out.block _ HG_w2.out.lt)
          have HR_w3 : Hid (Blk w3 (B + 1 + 1) 2 (fun i => if i = 0 then .int .i64 0 else .slice none 0 0)) := HR_w2.out.of_block (HB3.out.block _ HR_w2.out.lt)
          have HL_w3 : Hid (Below w.heap.size w w3) := HL_w2.out.trans (HB3.out.mono HL_w2.out.size)
          have HT_w3 : Hid (Blk w3 P 2 (fun i => if i = 0 then .int .i64 s else .slice a1 m1 cap1)) := HT_w2.out.of_block (HB3.out.block _ HT_w2.out.lt)
          have HE_w3 : Hid (EdgesOwn Lo Hi w3 a1 PL) := HE_w2.out.below HB3.out HSZ2.out
          have HSZ3 : Hid (Hi ≤ w3.heap.size) := Nat.le_trans HSZ2.out HB3.out.size
          clear z0 z1 HB3 HG_w2 HR_w2 HL_w2 HT_w2 HE_w2 HSZ2
          rcases Bool.eq_false_or_eq_true r2 with h2 | h2
          · subst h2
            have HGO : Hid (true = gaddOk s l (x0, x1, x2)) := by show _ = _; rw [HGA.out.1]; rfl
            have HGL : Hid (gaddL s l (x0, x1, x2) = PL) := by show _ = _; rw [HGA.out.2]; rfl
            obtain ⟨z0, z1⟩ := blk_pair_cells HT_w3.out
            obtain ⟨r0, r1⟩ := blk_pair_cells HR_w3.out
            have rf0 := HR_w3.out.frozen 0
            have rf1 := HR_w3.out.frozen 1
            have hne : B + 1 + 1 ≠ P := by have := HLR.out; have := HWP'.out; omega
            have HLT : Hid (B + 1 + 1 < Lo) := by have := HLR.out; have := HLo1.out; show _ < _; omega
            go_wp2
            refine bodyPost_ret (v := .tuple #[.agg #[.int .i64 s, .slice a1 m1 cap1], .bool true]) (by simp [results, Try.results46, go_sem, r0, r1]) rfl ?_
            refine ⟨a1, m1, cap1, true, rfl, HGO.out, by show _ = _; rw [HGL.out]; exact HM1.out, ?_, ?_⟩
            · rw [HGL.out]
              have h := ((HE_w3.out.setCell (b := B + 1 + 1) (j := 0) HLT.out (.int .i64 s)).setCell (b := B + 1 + 1) (j := 1) HLT.out (.slice a1 m1 cap1))
              exact h.wide (by have := HB.out; have := HLT.out; omega) (by simpa using HSZ3.out)
            · exact (HL_w3.out.setCell (by rw [HB.out]; simp; omega) _).setCell (by rw [HB.out]; simp; omega) _
          · subst h2
            have HGO : Hid (false = gaddOk s l (x0, x1, x2)) := by show _ = _; rw [HGA.out.1]; rfl
            have HGL : Hid (gaddL s l (x0, x1, x2) = l) := by show _ = _; rw [HGA.out.2]; rfl
            obtain ⟨bc0, bc1⟩ := blk_pair_cells HG_w3.out
            go_wp2_with fail
            refine (l04Copy_any lo hi s a n cap l w3 (HA.out.below HL_w3.out HH.out) (Nat.le_trans HH.out HL_w3.out.size) HN.out (by omega)).mono ?_
            rintro e w9 ⟨a9, cap9, rfl, HO9, HB9⟩
            have HR9 : Hid (Blk w9 (B + 1 + 1) 2 (fun i => if i = 0 then .int .i64 0 else .slice none 0 0)) := HR_w3.out.of_block (HB9.out.block _ HR_w3.out.lt)
            have HE9 : Hid (EdgesOwn w3.heap.size w9.heap.size w9 a9 l) := own_in HO9.out HN.out
            have HL9 : Hid (Below w.heap.size w w9) := HL_w3.out.trans (HB9.out.mono HL_w3.out.size)
            obtain ⟨r0, r1⟩ := blk_pair_cells HR9.out
            have rf0 := HR9.out.frozen 0
            have rf1 := HR9.out.frozen 1
            have HLT : Hid (B + 1 + 1 < w3.heap.size) := HR_w3.out.lt
            clear bc0 bc1 HO9
            go_wp2
            refine bodyPost_ret (v := .tuple #[.agg #[.int .i64 s, .slice a9 n cap9], .bool false]) (by simp [results, Try.results46, go_sem, r0, r1]) rfl ?_
            refine ⟨a9, n, cap9, false, rfl, HGO.out, by show _ = _; rw [HGL.out]; exact HN.out, ?_, ?_⟩
            · rw [HGL.out]
              have h := ((HE9.out.setCell (b := B + 1 + 1) (j := 0) HLT.out (.int .i64 s)).setCell (b := B + 1 + 1) (j := 1) HLT.out (.slice a9 n cap9))
              exact h.wide HL_w3.out.size (by simp)
            · exact (HL9.out.setCell (by rw [HB.out]; simp; omega) _).setCell (by rw [HB.out]; simp; omega) _
        · subst hs
          have HGO : Hid (false = gaddOk s l (x0, x1, x2)) := by show _ = _; rw [HGA.out.1]; rfl
          have HGL : Hid (gaddL s l (x0, x1, x2) = l) := by show _ = _; rw [HGA.out.2]; rfl
          obtain ⟨bc0, bc1⟩ := blk_pair_cells HG_w2.out
          go_wp2_with fail
          refine (l04Copy_any lo hi s a n cap l w2 (HA.out.below HL_w2.out HH.out) (Nat.le_trans HH.out HL_w2.out.size) HN.out (by omega)).mono ?_
          rintro e w9 ⟨a9, cap9, rfl, HO9, HB9⟩
          have HR9 : Hid (Blk w9 (B + 1 + 1) 2 (fun i => if i = 0 then .int .i64 0 else .slice none 0 0)) := HR_w2.out.of_block (HB9.out.block _ HR_w2.out.lt)
          have HE9 : Hid (EdgesOwn w2.heap.size w9.heap.size w9 a9 l) := own_in HO9.out HN.out
          have HL9 : Hid (Below w.heap.size w w9) := HL_w2.out.trans (HB9.out.mono HL_w2.out.size)
          obtain ⟨r0, r1⟩ := blk_pair_cells HR9.out
          have rf0 := HR9.out.frozen 0
          have rf1 := HR9.out.frozen 1
          have HLT : Hid (B + 1 + 1 < w2.heap.size) := HR_w2.out.lt
          clear bc0 bc1 HO9
          go_wp2
          refine bodyPost_ret (v := .tuple #[.agg #[.int .i64 s, .slice a9 n cap9], .bool false]) (by simp [results, Try.results46, go_sem, r0, r1]) rfl ?_
          refine ⟨a9, n, cap9, false, rfl, HGO.out, by show _ = _; rw [HGL.out]; exact HN.out, ?_, ?_⟩
          · rw [HGL.out]
            have h := ((HE9.out.setCell (b := B + 1 + 1) (j := 0) HLT.out (.int .i64 s)).setCell (b := B + 1 + 1) (j := 1) HLT.out (.slice a9 n cap9))
            exact h.wide HL_w2.out.size (by simp)
          · exact (HL9.out.setCell (by rw [HB.out]; simp; omega) _).setCell (by rw [HB.out]; simp; omega) _
      exact AllReadyH.nil
    exact AllReadyH.nil
  refine AllReadyH.cons (o := { dst := some 6, op := Go.Op.alloc 37, type := 0, pos := "l04_graph.go:50", after := #[], guard := none }) rfl (fun K hK => ?_) ?_
  · go_simp
    have HBA : Hid (Below W.heap.size W ((W.alloc (.cells #[.int .i64 0, .slice none 0 0] 37)).drew)) := ((Below.refl W.heap.size W).drew).alloc (Nat.le_refl _) _
    have hka := HKS.out _ HBA.out
    have HPA : Hid (Blk ((W.alloc (.cells #[.int .i64 0, .slice none 0 0] 37)).drew) W.heap.size 2 (fun i => if i = 0 then .int .i64 0 else .slice none 0 0)) := blk_two W _ rfl _ _ _
    refine hK.out _ _ hka (fun hHeld => ?_)
    clear hK K
    try simp only [Act.put, List.setIfInBounds_toArray, List.set_cons_zero, List.set_cons_succ]
    refine wpAnyH_ready (rs := [5]) (by kernel_rfl) (by simp) ?_
    refine AllReadyH.cons (o := { dst := some 12, op := Go.Op.call { callee := Go.Callee.value (Go.Operand.func 83), args := #[Go.Operand.tmp 10, Go.Operand.tmp 11], argTypes := #[35, 42] }, type := 35, pos := "l04_graph.go:50", after := #[{ on := 3, ground := Go.Ground.data }, { on := 4, ground := Go.Ground.data }], guard := none }) rfl (fun K hK => ?_) ?_
    · go_simp
      go_wp2_with (go_at_call 83; refine (HPUT.out _ (HL.out.trans ((HBA.out).mono HL.out.size))).mono ?_; rintro e w1 ⟨a1, m1, cap1, rfl, HM1, HE1, C1⟩)
      have HB1 : Hid (Below W.heap.size W w1) := (HBA.out).trans (C1.out.mono (HBA.out).size)
      have hk1 := HKS.out _ HB1.out
      have HP1 : Hid (Blk w1 W.heap.size 2 (fun i => if i = 0 then .int .i64 0 else .slice none 0 0)) := HPA.out.of_block (C1.out.block _ HPA.out.lt)
      have HE1' : Hid (EdgesOwn (W.heap.size + 1) w1.heap.size w1 a1 PL) := by have h := HE1.out; rw [show ((W.alloc (.cells #[.int .i64 0, .slice none 0 0] 37)).drew).heap.size = W.heap.size + 1 from World.size_alloc ..] at h; exact h
      clear HE1 C1
      refine hK.out _ _ hk1 (fun hHeld => ?_)
      clear hK K
      try simp only [Act.put, List.setIfInBounds_toArray, List.set_cons_zero, List.set_cons_succ]
      refine wpAnyH_take (i := 6) (oi := { dst := some 13, op := Go.Op.build 37 #[(0, Go.Operand.tmp 8), (1, Go.Operand.tmp 12)], type := 37, pos := "l04_graph.go:50", after := #[{ on := 1, ground := Go.Ground.data }, { on := 5, ground := Go.Ground.data }], guard := none }) (v := ?_) rfl (by kernel_rfl) (by kernel_rfl) (by kernel_rfl) (fun _ _ _ h => h) (Or.inl ⟨by kernel_rfl, ?_⟩) (by assumption) ?_
      rotate_left
      · intro w hSw; (try dsimp only at hSw); go_simp; try with_reducible rfl
      simp only [Act.put, List.setIfInBounds_toArray, List.set_cons_zero, List.set_cons_succ]
      refine wpAnyH_ready (rs := [8]) (by kernel_rfl) (by simp) ?_
      refine AllReadyH.cons (o := { dst := none, op := Go.Op.store 37 (Go.Operand.tmp 6) (Go.Operand.tmp 13), type := 0, pos := "l04_graph.go:50", after := #[{ on := 7, ground := Go.Ground.data }, { on := 6, ground := Go.Ground.data }, { on := 5, ground := Go.Ground.chain }, { on := 0, ground := Go.Ground.phase }, { on := 1, ground := Go.Ground.phase }, { on := 2, ground := Go.Ground.phase }, { on := 3, ground := Go.Ground.phase }, { on := 4, ground := Go.Ground.phase }, { on := 5, ground := Go.Ground.phase }, { on := 6, ground := Go.Ground.phase }, { on := 7, ground := Go.Ground.phase }], guard := none }) rfl (fun K hK => ?_) ?_
      · obtain ⟨z0, z1⟩ := blk_pair_cells HP1.out
        have zf0 := HP1.out.frozen 0
        have zf1 := HP1.out.frozen 1
        go_simp
        have HBS : Hid (Below W.heap.size W ((w1.setCell ⟨W.heap.size, 0, none⟩ (.int .i64 s)).setCell ⟨W.heap.size, 1, none⟩ (.slice a1 m1 cap1))) := (HB1.out.setCell (Nat.le_refl _) _).setCell (Nat.le_refl _) _
        have hks := HKS.out _ HBS.out
        have HT0 : Hid (Blk ((w1.setCell ⟨W.heap.size, 0, none⟩ (.int .i64 s)).setCell ⟨W.heap.size, 1, none⟩ (.slice a1 m1 cap1)) W.heap.size 2 (fun i => if i = 0 then .int .i64 s else .slice a1 m1 cap1)) := ((HP1.out.set 0 (by omega) _).set 1 (by omega) _).congr (fun i hi => by rcases (show i = 0 ∨ i = 1 by omega) with rfl | rfl <;> simp)
        have HE0 : Hid (EdgesOwn (W.heap.size + 1) w1.heap.size ((w1.setCell ⟨W.heap.size, 0, none⟩ (.int .i64 s)).setCell ⟨W.heap.size, 1, none⟩ (.slice a1 m1 cap1)) a1 PL) := (HE1'.out.setCell (Nat.lt_succ_self _) _).setCell (Nat.lt_succ_self _) _
        have HSZ : Hid (w1.heap.size ≤ ((w1.setCell ⟨W.heap.size, 0, none⟩ (.int .i64 s)).setCell ⟨W.heap.size, 1, none⟩ (.slice a1 m1 cap1)).heap.size) := by show _ ≤ _; simp
        have HWP : Hid (W.heap.size ≤ W.heap.size) := Nat.le_refl _
        refine hK.out _ _ hks (fun hHeld => ?_)
        clear hK K
        try simp only [Act.put, List.setIfInBounds_toArray, List.set_cons_zero, List.set_cons_succ]
        refine wpAnyH_done (by kernel_rfl) ?_ _
        clear hHeld
        obtain ⟨V, HV⟩ : ∃ V, Hid (V = ((w1.setCell ⟨W.heap.size, 0, none⟩ (.int .i64 s)).setCell ⟨W.heap.size, 1, none⟩ (.slice a1 m1 cap1))) := ⟨_, rfl⟩
        rw [← HV.out] at HBS HT0 HE0 HSZ
        obtain ⟨Lo, HLo⟩ : ∃ L, Hid (L = (W.heap.size + 1)) := ⟨_, rfl⟩
        obtain ⟨Hi, HHi⟩ : ∃ L, Hid (L = w1.heap.size) := ⟨_, rfl⟩
        have HLo1 : Hid (W.heap.size ≤ Lo) := by rw [HLo.out]; show _ ≤ _; omega
        rw [← HLo.out, ← HHi.out] at HE0
        rw [← HHi.out] at HSZ
        obtain ⟨P, HP⟩ : ∃ P, Hid (P = W.heap.size) := ⟨_, rfl⟩
        rw [← HP.out] at HT0
        have HWP' : Hid (W.heap.size ≤ P) := by rw [HP.out]; exact HWP.out
        go_upto_region 2 with fail
        rw [← HV.out, ← HP.out]
        clear HWP HV HP HLo HHi HB1 HE1' hk1
        have HG_V : Hid (Blk V B 2 (fun i => if i = 0 then .int .i64 s else .slice a n cap)) := HG.out.of_block (HBS.out.block _ HG.out.lt)
        have HR_V : Hid (Blk V (B + 1 + 1) 2 (fun i => if i = 0 then .int .i64 0 else .slice none 0 0)) := HR.out.of_block (HBS.out.block _ HR.out.lt)
        have HL_V : Hid (Below w.heap.size w V) := HL.out.trans (HBS.out.mono HL.out.size)
        obtain ⟨c0, c1⟩ := blk_pair_cells HG_V.out
        go_wp2_with fail
        refine (specGOk_any lo hi s a n cap l r V (HA.out.below HL_V.out HH.out) (Nat.le_trans HH.out HL_V.out.size) HN.out (by omega) HS.out).mono ?_
        rintro e w2 ⟨rfl, HB2⟩
        have HG_w2 : Hid (Blk w2 B 2 (fun i => if i = 0 then .int .i64 s else .slice a n cap)) := HG_V.out.of_block (HB2.out.block _ HG_V.out.lt)
        have HR_w2 : Hid (Blk w2 (B + 1 + 1) 2 (fun i => if i = 0 then .int .i64 0 else .slice none 0 0)) := HR_V.out.of_block (HB2.out.block _ HR_V.out.lt)
        have HL_w2 : Hid (Below w.heap.size w w2) := HL_V.out.trans (HB2.out.mono HL_V.out.size)
        have HT_w2 : Hid (Blk w2 P 2 (fun i => if i = 0 then .int .i64 s else .slice a1 m1 cap1)) := HT0.out.of_block (HB2.out.block _ HT0.out.lt)
        have HE_w2 : Hid (EdgesOwn Lo Hi w2 a1 PL) := HE0.out.below HB2.out HSZ.out
        have HSZ2 : Hid (Hi ≤ w2.heap.size) := Nat.le_trans HSZ.out HB2.out.size
        clear c0 c1 HB2 HG_V HR_V HL_V HT0 HE0 HSZ
        rcases Bool.eq_false_or_eq_true r with hs | hs
        · subst hs
          obtain ⟨z0, z1⟩ := blk_pair_cells HT_w2.out
          have hm1 : m1 ≤ 1048576 := by have h40 := (okG_size HS.out.symm).2.2; rw [HN.out] at h40; have := HPLN.out; have := HM1.out; omega
          go_wp2_with fail
          refine (specGOk_any Lo Hi s a1 m1 cap1 PL r2 w2 HE_w2.out.toIn HSZ2.out HM1.out hm1 HS2'.out).mono ?_
          rintro e w3 ⟨rfl, HB3⟩
          have HG_w3 : Hid (Blk w3 B 2 (fun i => if i = 0 then .int .i64 s else .slice a n cap)) := HG_w2.out.of_block (HB3.out.block _ HG_w2.out.lt)
          have HR_w3 : Hid (Blk w3 (B + 1 + 1) 2 (fun i => if i = 0 then .int .i64 0 else .slice none 0 0)) := HR_w2.out.of_block (HB3.out.block _ HR_w2.out.lt)
          have HL_w3 : Hid (Below w.heap.size w w3) := HL_w2.out.trans (HB3.out.mono HL_w2.out.size)
          have HT_w3 : Hid (Blk w3 P 2 (fun i => if i = 0 then .int .i64 s else .slice a1 m1 cap1)) := HT_w2.out.of_block (HB3.out.block _ HT_w2.out.lt)
          have HE_w3 : Hid (EdgesOwn Lo Hi w3 a1 PL) := HE_w2.out.below HB3.out HSZ2.out
          have HSZ3 : Hid (Hi ≤ w3.heap.size) := Nat.le_trans HSZ2.out HB3.out.size
          clear z0 z1 HB3 HG_w2 HR_w2 HL_w2 HT_w2 HE_w2 HSZ2
          rcases Bool.eq_false_or_eq_true r2 with h2 | h2
          · subst h2
            have HGO : Hid (true = gaddOk s l (x0, x1, x2)) := by show _ = _; rw [HGA.out.1]; rfl
            have HGL : Hid (gaddL s l (x0, x1, x2) = PL) := by show _ = _; rw [HGA.out.2]; rfl
            obtain ⟨z0, z1⟩ := blk_pair_cells HT_w3.out
            obtain ⟨r0, r1⟩ := blk_pair_cells HR_w3.out
            have rf0 := HR_w3.out.frozen 0
            have rf1 := HR_w3.out.frozen 1
            have hne : B + 1 + 1 ≠ P := by have := HLR.out; have := HWP'.out; omega
            have HLT : Hid (B + 1 + 1 < Lo) := by have := HLR.out; have := HLo1.out; show _ < _; omega
            go_wp2
            refine bodyPost_ret (v := .tuple #[.agg #[.int .i64 s, .slice a1 m1 cap1], .bool true]) (by simp [results, Try.results46, go_sem, r0, r1]) rfl ?_
            refine ⟨a1, m1, cap1, true, rfl, HGO.out, by show _ = _; rw [HGL.out]; exact HM1.out, ?_, ?_⟩
            · rw [HGL.out]
              have h := ((HE_w3.out.setCell (b := B + 1 + 1) (j := 0) HLT.out (.int .i64 s)).setCell (b := B + 1 + 1) (j := 1) HLT.out (.slice a1 m1 cap1))
              exact h.wide (by have := HB.out; have := HLT.out; omega) (by simpa using HSZ3.out)
            · exact (HL_w3.out.setCell (by rw [HB.out]; simp; omega) _).setCell (by rw [HB.out]; simp; omega) _
          · subst h2
            have HGO : Hid (false = gaddOk s l (x0, x1, x2)) := by show _ = _; rw [HGA.out.1]; rfl
            have HGL : Hid (gaddL s l (x0, x1, x2) = l) := by show _ = _; rw [HGA.out.2]; rfl
            obtain ⟨bc0, bc1⟩ := blk_pair_cells HG_w3.out
            go_wp2_with fail
            refine (l04Copy_any lo hi s a n cap l w3 (HA.out.below HL_w3.out HH.out) (Nat.le_trans HH.out HL_w3.out.size) HN.out (by omega)).mono ?_
            rintro e w9 ⟨a9, cap9, rfl, HO9, HB9⟩
            have HR9 : Hid (Blk w9 (B + 1 + 1) 2 (fun i => if i = 0 then .int .i64 0 else .slice none 0 0)) := HR_w3.out.of_block (HB9.out.block _ HR_w3.out.lt)
            have HE9 : Hid (EdgesOwn w3.heap.size w9.heap.size w9 a9 l) := own_in HO9.out HN.out
            have HL9 : Hid (Below w.heap.size w w9) := HL_w3.out.trans (HB9.out.mono HL_w3.out.size)
            obtain ⟨r0, r1⟩ := blk_pair_cells HR9.out
            have rf0 := HR9.out.frozen 0
            have rf1 := HR9.out.frozen 1
            have HLT : Hid (B + 1 + 1 < w3.heap.size) := HR_w3.out.lt
            clear bc0 bc1 HO9
            go_wp2
            refine bodyPost_ret (v := .tuple #[.agg #[.int .i64 s, .slice a9 n cap9], .bool false]) (by simp [results, Try.results46, go_sem, r0, r1]) rfl ?_
            refine ⟨a9, n, cap9, false, rfl, HGO.out, by show _ = _; rw [HGL.out]; exact HN.out, ?_, ?_⟩
            · rw [HGL.out]
              have h := ((HE9.out.setCell (b := B + 1 + 1) (j := 0) HLT.out (.int .i64 s)).setCell (b := B + 1 + 1) (j := 1) HLT.out (.slice a9 n cap9))
              exact h.wide HL_w3.out.size (by simp)
            · exact (HL9.out.setCell (by rw [HB.out]; simp; omega) _).setCell (by rw [HB.out]; simp; omega) _
        · subst hs
          have HGO : Hid (false = gaddOk s l (x0, x1, x2)) := by show _ = _; rw [HGA.out.1]; rfl
          have HGL : Hid (gaddL s l (x0, x1, x2) = l) := by show _ = _; rw [HGA.out.2]; rfl
          obtain ⟨bc0, bc1⟩ := blk_pair_cells HG_w2.out
          go_wp2_with fail
          refine (l04Copy_any lo hi s a n cap l w2 (HA.out.below HL_w2.out HH.out) (Nat.le_trans HH.out HL_w2.out.size) HN.out (by omega)).mono ?_
          rintro e w9 ⟨a9, cap9, rfl, HO9, HB9⟩
          have HR9 : Hid (Blk w9 (B + 1 + 1) 2 (fun i => if i = 0 then .int .i64 0 else .slice none 0 0)) := HR_w2.out.of_block (HB9.out.block _ HR_w2.out.lt)
          have HE9 : Hid (EdgesOwn w2.heap.size w9.heap.size w9 a9 l) := own_in HO9.out HN.out
          have HL9 : Hid (Below w.heap.size w w9) := HL_w2.out.trans (HB9.out.mono HL_w2.out.size)
          obtain ⟨r0, r1⟩ := blk_pair_cells HR9.out
          have rf0 := HR9.out.frozen 0
          have rf1 := HR9.out.frozen 1
          have HLT : Hid (B + 1 + 1 < w2.heap.size) := HR_w2.out.lt
          clear bc0 bc1 HO9
          go_wp2
          refine bodyPost_ret (v := .tuple #[.agg #[.int .i64 s, .slice a9 n cap9], .bool false]) (by simp [results, Try.results46, go_sem, r0, r1]) rfl ?_
          refine ⟨a9, n, cap9, false, rfl, HGO.out, by show _ = _; rw [HGL.out]; exact HN.out, ?_, ?_⟩
          · rw [HGL.out]
            have h := ((HE9.out.setCell (b := B + 1 + 1) (j := 0) HLT.out (.int .i64 s)).setCell (b := B + 1 + 1) (j := 1) HLT.out (.slice a9 n cap9))
            exact h.wide HL_w2.out.size (by simp)
          · exact (HL9.out.setCell (by rw [HB.out]; simp; omega) _).setCell (by rw [HB.out]; simp; omega) _
      exact AllReadyH.nil
    exact AllReadyH.nil
  exact AllReadyH.nil
end Go.Proofs.Ytelikebpddhncaa

/-
  A drawn graph: spec.l04Graph, spec.DrawGraph.
-/
namespace Go.Proofs.Ytelikebpddhncaa
open Go.RowKit

theorem okE_in {s : Int} {x : Ed} (h : edIn s x) : okE s x = true := by
  obtain ⟨h1, h2, h3⟩ := h
  unfold okE inV
  simp only [Bool.and_eq_true, decide_eq_true_eq]
  omega
/-- what a drawn graph is behind j rounds -/
def GDr (s : Int) (L : List Ed) (j : Nat) : Prop := okG s L = true ∧ L.length ≤ j ∧ (1 ≤ j → L ≠ [])
theorem gadd_drawn {s : Int} {L : List Ed} {x : Ed} {j : Nat} (h : GDr s L j) (hx : edIn s x) (hj : j ≤ 9) (h1 : 1 ≤ s) (h2 : s ≤ 12) : GDr s (gaddL s L x) (j + 1) := by
  have hl := putE_len L x
  have hlj := h.2.1
  have ho := okG_iff.1 h.1
  have hp : okG s (putE L x) = true := okG_iff.2 ⟨⟨h1, h2⟩, by omega, fun y hy => by
    rcases mem_putE.1 hy with rfl | hy
    · exact okE_in hx
    · exact ho.2.2.1 y hy, srt_putE ho.2.2.2 x⟩
  have e : gaddL s L x = putE L x := by unfold gaddL gaddOk; rw [h.1, hp]; rfl
  rw [e]
  refine ⟨hp, by omega, fun _ h0 => ?_⟩
  have : x ∈ putE L x := mem_putE.2 (.inl rfl)
  rw [h0] at this
  cases this
/-- what a round leaves -/
def GRel (w wr : World) (p n cap : Nat) (ao : Option Addr) (B B3 : Nat) (s : Int) (j : Nat) (a : Option Addr) (nL cL : Nat) (L : List Ed) : Prop :=
  Hid (EdgesIn (B3 + 1) wr.heap.size wr a L) ∧ Hid (GDr s L j) ∧ Hid (Blk wr B3 2 (fun i => if i = 0 then .int .i64 s else .slice a nL cL)) ∧ Hid (Blk wr B 2 (fun i => if i = 0 then .int .i64 0 else .slice none 0 0)) ∧ Hid (CurL p ao n cap wr) ∧ Hid (KeptBut p w wr)
theorem graph_rel {w w4 : World} {p n cap : Nat} {ao : Option Addr} {B B3 : Nat} {s : Int} {j : Nat} {a a0 : Option Addr} {nL cL n0 c0 : Nat} {L : List Ed} {j' : Nat} (hjj : j' = j) (hl : p < w.heap.size ∧ w.heap.size = B ∧ B < B3) (he : EdgesOwn (B3 + 1) w4.heap.size w4 a L) (hg : Blk w4 B3 2 (fun i => if i = 0 then .int .i64 s else .slice a0 n0 c0)) (hr : Blk w4 B 2 (fun i => if i = 0 then .int .i64 0 else .slice none 0 0)) (hc : CurL p ao n cap w4) (hk : KeptBut p w w4) (hd : GDr s L j) :
    GRel w ((w4.setCell ⟨B3, 0, none⟩ (.int .i64 s)).setCell ⟨B3, 1, none⟩ (.slice a nL cL)) p n cap ao B B3 s j' a nL cL L := by
  subst hjj
  refine ⟨((he.setCell (Nat.lt_succ_self _) _).setCell (Nat.lt_succ_self _) _).toIn.wide (Nat.le_refl _) (by simp), hd, ?_, ?_, ?_, ?_⟩
  · exact ((hg.set 0 (by omega) _).set 1 (by omega) _).congr (fun i hi => by rcases (show i = 0 ∨ i = 1 by omega) with rfl | rfl <;> simp)
  · refine hr.of_block ?_
    rw [Below.heap_setCell _ ⟨B3, 1, none⟩ _ B (by show B ≠ B3; omega), Below.heap_setCell _ ⟨B3, 0, none⟩ _ B (by show B ≠ B3; omega)]
  · exact hc.below (((Below.refl B3 w4).setCell (Nat.le_refl _) _).setCell (Nat.le_refl _) _) (by omega)
  · exact (hk.setOut (by omega) _).setOut (by omega) _

set_option maxHeartbeats 8000000 in
set_option maxRecDepth 100000 in
theorem l04Graph_any (w : World) (p n cap : Nat) (ao : Option Addr) (hc : CurL p ao n cap w) :
    Calls Try.prog 71 #[.pointer (some ⟨p, 0, none⟩)] w fun e w' => ∃ (s : Int) (a : Option Addr) (nL cL : Nat) (L : List Ed), e = .returned (gv s a nL cL) ∧ Hid (L.length = nL) ∧ Hid (EdgesIn w.heap.size w'.heap.size w' a L) ∧ Hid (GDr s L 10 ∧ 2 ≤ s ∧ s ≤ 5) ∧ Hid (CurL p ao n cap w') ∧ Hid (KeptBut p w w') := by
  have HP : Hid (p < w.heap.size) := hc.lt
  obtain ⟨B, HB⟩ : ∃ B, Hid (w.heap.size = B) := ⟨_, rfl⟩
  have HC : Hid (CurL p ao n cap w) := hc
  clear hc
  go_enter Try.func71, Try.ntmps71
  go_wp2_with fail
  rw [HB.out]
  generalize hW : World.alloc _ _ = W
  have HC1 : Hid (CurL p ao n cap W) := by show CurL _ _ _ _ _; rw [← hW]; exact HC.out.below (below1 w _) HP.out
  have HK1 : Hid (KeptBut p w W) := by show KeptBut _ _ _; rw [← hW]; exact (KeptBut.refl p w).below (below1 w _)
  have HR1 : Hid (Blk W B 2 (fun i => if i = 0 then .int .i64 0 else .slice none 0 0)) := by show Blk _ _ _ _; rw [← hW]; exact blk_two w B HB.out.symm _ _ _
  clear hW
  refine (HC1.out.draw 4 (by omega) (by omega)).mono ?_
  rintro e w1 ⟨x0, rfl, x00, x01, HC2, HK2⟩
  obtain ⟨B3, HB3⟩ : ∃ B3, Hid (w1.heap.size = B3) := ⟨_, rfl⟩
  have HR2 : Hid (Blk w1 B 2 (fun i => if i = 0 then .int .i64 0 else .slice none 0 0)) := HR1.out.keptBut HK2.out (by have := HP.out; have := HB.out; omega)
  have HK3 : Hid (KeptBut p w w1) := HK1.out.trans HK2.out
  have HPL : Hid (p < w.heap.size ∧ w.heap.size = B ∧ B < B3) := ⟨HP.out, HB.out, by have := HR2.out.lt; have := HB3.out; omega⟩
  have HPB : Hid (B ≠ p ∧ B3 ≠ p) := by have := HPL.out; exact ⟨by omega, by omega⟩
  have HPP : Hid (p < B3 + 1) := by have := HPL.out; show p < B3 + 1; omega
  clear HC1 HK1 HR1 HK2 HP HC
  go_wp2
  rw [HB3.out]
  go_loopw [4] (fun i wr => ∃ (j : Nat) (a : Option Addr) (nL cL : Nat) (L : List Ed), i = .int .i64 j ∧ j ≤ 10 ∧ Hid (L.length = nL) ∧ GRel w wr p n cap ao B B3 (2 + x0) j a nL cL L) (fun i _ => 10 - (intOf i).toNat)
  case atStart =>
    refine ⟨0, none, 0, 0, [], rfl, by omega, rfl, .inl rfl, ⟨okG_iff.2 ⟨⟨by omega, by omega⟩, by simp, by simp, List.Pairwise.nil⟩, by simp, by omega⟩, ?_, ?_, ?_, ?_⟩
    · exact blk_two w1 B3 HB3.out.symm _ _ _
    · exact HR2.out.alloc _
    · exact HC2.out.below (below1 w1 _) HC2.out.lt
    · exact HK3.out.below (below1 w1 _)
  case round =>
    obtain ⟨j, a, nL, cL, L, rfl, hj, HLN, HE1, HLO, HG1, HR1, HCU1, HKK1⟩ := hrel
    clear HC2 HR2 HK3
    go_wp2_with fail
    refine (HCU1.out.draw 9 (by omega) (by omega)).mono ?_
    rintro e w2 ⟨y, rfl, hy0, hy1, HCU2, HK2⟩
    have HKK2 : Hid (KeptBut p w w2) := HKK1.out.trans HK2.out
    have HG2 : Hid (Blk w2 B3 2 (fun i => if i = 0 then .int .i64 (2 + x0) else .slice a nL cL)) := HG1.out.keptBut HK2.out HPB.out.2
    have HR2 : Hid (Blk w2 B 2 (fun i => if i = 0 then .int .i64 0 else .slice none 0 0)) := HR1.out.keptBut HK2.out HPB.out.1
    have HE2 : Hid (EdgesIn (B3 + 1) w2.heap.size w2 a L) := (HE1.out.keptBut HK2.out HPP.out (Nat.le_refl _)).wide (Nat.le_refl _) HK2.out.size
    obtain ⟨c0, c1⟩ := blk_pair_cells HG2.out
    clear HE1 HG1 HR1 HCU1 HKK1 HK2
    by_cases hlt : (j : Int) < 2 + y
    · have hj9 : j ≤ 9 := by omega
      go_wp2_with fail
      refine wp_region_held_drew (S := fun _ => True) (by kernel_rfl) trivial (fun hHeld => ?_)
      refine wpAnyH_take (i := 1) (oi := { dst := some 18, op := Go.Op.move (Go.Operand.tmp 0), type := 83, pos := "l04_graph.go:136", after := #[], guard := none }) (v := ?_) rfl (by kernel_rfl) (by kernel_rfl) (by kernel_rfl) (fun _ _ _ h => h) (Or.inl ⟨by kernel_rfl, ?_⟩) (by assumption) ?_
      rotate_left
      · intro w hSw; (try dsimp only at hSw); go_simp; try with_reducible rfl
      simp only [Act.put, List.setIfInBounds_toArray, List.set_cons_zero, List.set_cons_succ]
      refine wpAnyH_take (i := 2) (oi := { dst := some 19, op := Go.Op.fieldAddr 37 (Go.Operand.tmp 3) 0, type := 0, pos := "l04_graph.go:136", after := #[], guard := none }) (v := ?_) rfl (by kernel_rfl) (by kernel_rfl) (by kernel_rfl) (fun _ _ _ h => h) (Or.inl ⟨by kernel_rfl, ?_⟩) (by assumption) ?_
      rotate_left
      · intro w hSw; (try dsimp only at hSw); go_simp; try with_reducible rfl
      simp only [Act.put, List.setIfInBounds_toArray, List.set_cons_zero, List.set_cons_succ]
      refine wpAnyH_ready (rs := [0, 3]) (by kernel_rfl) (by simp) ?_
      refine AllReadyH.cons (o := { dst := some 17, op := Go.Op.load 37 (Go.Operand.tmp 3), type := 37, pos := "l04_graph.go:136", after := #[], guard := none }) rfl (fun K hK => ?_) ?_
      · go_simp
        refine hK.out _ _ trivial (fun hHeld => ?_)
        clear hK K
        try simp only [Act.put, List.setIfInBounds_toArray, List.set_cons_zero, List.set_cons_succ]
        refine wpAnyH_ready (rs := [3]) (by kernel_rfl) (by simp) ?_
        refine AllReadyH.cons (o := { dst := some 20, op := Go.Op.load 3 (Go.Operand.tmp 19), type := 3, pos := "l04_graph.go:136", after := #[{ on := 2, ground := Go.Ground.data }], guard := none }) rfl (fun K hK => ?_) ?_
        · go_simp
          refine hK.out _ _ trivial (fun hHeld => ?_)
          clear hK K
          try simp only [Act.put, List.setIfInBounds_toArray, List.set_cons_zero, List.set_cons_succ]
          refine wpAnyH_ready (rs := [4]) (by kernel_rfl) (by simp) ?_
          refine AllReadyH.cons (o := { dst := some 21, op := Go.Op.call { callee := Go.Callee.value (Go.Operand.func 102), args := #[Go.Operand.tmp 18, Go.Operand.tmp 20], argTypes := #[83, 3] }, type := 42, pos := "l04_graph.go:136", after := #[{ on := 1, ground := Go.Ground.data }, { on := 3, ground := Go.Ground.data }], guard := none }) rfl (fun K hK => ?_) ?_
          · go_simp
            go_wp2_with (go_at_call 102; refine (l04Edge_any _ p n cap ao (2 + x0) (by omega) (by omega) (HCU2.out.below ((Below.refl _ _).drew) HCU2.out.lt)).mono ?_; rintro e w3 ⟨x, rfl, HX, HC3, HK3⟩)
            have HK3' : Hid (KeptBut p w2 w3) := ((KeptBut.refl p w2).below ((Below.refl _ _).drew)).trans HK3.out
            have HKK3 : Hid (KeptBut p w w3) := HKK2.out.trans HK3'.out
            have HG3 : Hid (Blk w3 B3 2 (fun i => if i = 0 then .int .i64 (2 + x0) else .slice a nL cL)) := HG2.out.keptBut HK3'.out HPB.out.2
            have HR3 : Hid (Blk w3 B 2 (fun i => if i = 0 then .int .i64 0 else .slice none 0 0)) := HR2.out.keptBut HK3'.out HPB.out.1
            have HE3 : Hid (EdgesIn (B3 + 1) w3.heap.size w3 a L) := (HE2.out.keptBut HK3'.out HPP.out (Nat.le_refl _)).wide (Nat.le_refl _) HK3'.out.size
            obtain ⟨c0, c1⟩ := blk_pair_cells HG3.out
            clear HK3 HK3' HKK2 HG2 HR2 HE2 HCU2
            refine hK.out _ _ trivial (fun hHeld => ?_)
            clear hK K
            try simp only [Act.put, List.setIfInBounds_toArray, List.set_cons_zero, List.set_cons_succ]
            refine wpAnyH_ready (rs := [5]) (by kernel_rfl) (by simp) ?_
            refine AllReadyH.cons (o := { dst := some 22, op := Go.Op.call { callee := Go.Callee.value (Go.Operand.func 46), args := #[Go.Operand.tmp 17, Go.Operand.tmp 21], argTypes := #[37, 42] }, type := 43, pos := "l04_graph.go:136", after := #[{ on := 0, ground := Go.Ground.data }, { on := 4, ground := Go.Ground.data }, { on := 4, ground := Go.Ground.chain }], guard := none }) rfl (fun K hK => ?_) ?_
            · go_simp
              go_wp2_with (go_at_call 46; refine (specGAdd_any (B3 + 1) _ (2 + x0) a nL cL L x w3 HE3.out (Nat.le_refl _) HLN.out (by have := HLN.out; have := HLO.out.2.1; omega)).mono ?_; rintro e w4 ⟨a4, n4, c4, ok4, rfl, HOK4, HN4, HE4, HB4⟩)
              have HC4 : Hid (CurL p ao n cap w4) := HC3.out.below HB4.out HC3.out.lt
              have HKK4 : Hid (KeptBut p w w4) := HKK3.out.below HB4.out
              have HG4 : Hid (Blk w4 B3 2 (fun i => if i = 0 then .int .i64 (2 + x0) else .slice a nL cL)) := HG3.out.of_block (HB4.out.block _ HG3.out.lt)
              have HR4 : Hid (Blk w4 B 2 (fun i => if i = 0 then .int .i64 0 else .slice none 0 0)) := HR3.out.of_block (HB4.out.block _ HR3.out.lt)
              have HE4' : Hid (EdgesOwn (B3 + 1) w4.heap.size w4 a4 (gaddL (2 + x0) L x)) := HE4.out.wide HG3.out.lt (Nat.le_refl _)
              clear HC3 HKK3 HG3 HR3 HE3 HE4 HB4 HOK4 c0 c1
              refine hK.out _ _ trivial (fun hHeld => ?_)
              clear hK K
              try simp only [Act.put, List.setIfInBounds_toArray, List.set_cons_zero, List.set_cons_succ]
              refine wpAnyH_take (i := 6) (oi := { dst := some 16, op := Go.Op.move (Go.Operand.tmp 22), type := 43, pos := "l04_graph.go:136", after := #[{ on := 5, ground := Go.Ground.data }], guard := none }) (v := ?_) rfl (by kernel_rfl) (by kernel_rfl) (by kernel_rfl) (fun _ _ _ h => h) (Or.inl ⟨by kernel_rfl, ?_⟩) (by assumption) ?_
              rotate_left
              · intro w hSw; (try dsimp only at hSw); go_simp; try with_reducible rfl
              simp only [Act.put, List.setIfInBounds_toArray, List.set_cons_zero, List.set_cons_succ]
              refine wpAnyH_take (i := 7) (oi := { dst := some 23, op := Go.Op.extract (Go.Operand.tmp 16) 0, type := 37, pos := "l04_graph.go:136", after := #[{ on := 6, ground := Go.Ground.data }], guard := none }) (v := ?_) rfl (by kernel_rfl) (by kernel_rfl) (by kernel_rfl) (fun _ _ _ h => h) (Or.inl ⟨by kernel_rfl, ?_⟩) (by assumption) ?_
              rotate_left
              · intro w hSw; (try dsimp only at hSw); go_simp; try with_reducible rfl
              simp only [Act.put, List.setIfInBounds_toArray, List.set_cons_zero, List.set_cons_succ]
              refine wpAnyH_take (i := 8) (oi := { dst := some 24, op := Go.Op.extract (Go.Operand.tmp 16) 1, type := 4, pos := "l04_graph.go:136", after := #[{ on := 6, ground := Go.Ground.data }, { on := 9, ground := Go.Ground.gcOnly Go.Departure.lateStores }], guard := none }) (v := ?_) rfl (by kernel_rfl) (by kernel_rfl) (by kernel_rfl) (fun _ _ _ h => h) (Or.inl ⟨by kernel_rfl, ?_⟩) (by assumption) ?_
              rotate_left
              · intro w hSw; (try dsimp only at hSw); go_simp; try with_reducible rfl
              simp only [Act.put, List.setIfInBounds_toArray, List.set_cons_zero, List.set_cons_succ]
              refine wpAnyH_ready (rs := [9]) (by kernel_rfl) (by simp) ?_
              refine AllReadyH.cons (o := { dst := none, op := Go.Op.store 37 (Go.Operand.tmp 3) (Go.Operand.tmp 23), type := 0, pos := "l04_graph.go:136", after := #[{ on := 7, ground := Go.Ground.data }, { on := 5, ground := Go.Ground.chain }, { on := 0, ground := Go.Ground.phase }, { on := 1, ground := Go.Ground.phase }, { on := 2, ground := Go.Ground.phase }, { on := 3, ground := Go.Ground.phase }, { on := 4, ground := Go.Ground.phase }, { on := 5, ground := Go.Ground.phase }, { on := 6, ground := Go.Ground.phase }, { on := 7, ground := Go.Ground.phase }, { on := 8, ground := Go.Ground.textOnly Go.Departure.lateStores }], guard := none }) rfl (fun K hK => ?_) ?_
              · obtain ⟨d0, d1⟩ := blk_pair_cells HG4.out
                have df0 := HG4.out.frozen 0
                have df1 := HG4.out.frozen 1
                go_simp
                refine hK.out _ _ trivial (fun hHeld => ?_)
                clear hK K
                try simp only [Act.put, List.setIfInBounds_toArray, List.set_cons_zero, List.set_cons_succ]
                refine wpAnyH_done (by kernel_rfl) ?_ _
                clear hHeld d0 d1 df0 df1
                go_wp2
                go_roundw
                case rel => exact ⟨j + 1, a4, n4, c4, _, by go_num, by omega, HN4, graph_rel (by omega) HPL.out HE4'.out HG4.out HR4.out HC4.out HKK4.out (gadd_drawn HLO.out HX.out hj9 (by omega) (by omega))⟩
                case measure => simp [intOf]; omega
              exact AllReadyH.nil
            exact AllReadyH.nil
          exact AllReadyH.nil
        exact AllReadyH.nil
      refine AllReadyH.cons (o := { dst := some 20, op := Go.Op.load 3 (Go.Operand.tmp 19), type := 3, pos := "l04_graph.go:136", after := #[{ on := 2, ground := Go.Ground.data }], guard := none }) rfl (fun K hK => ?_) ?_
      · go_simp
        refine hK.out _ _ trivial (fun hHeld => ?_)
        clear hK K
        try simp only [Act.put, List.setIfInBounds_toArray, List.set_cons_zero, List.set_cons_succ]
        refine wpAnyH_ready (rs := [0, 4]) (by kernel_rfl) (by simp) ?_
        refine AllReadyH.cons (o := { dst := some 17, op := Go.Op.load 37 (Go.Operand.tmp 3), type := 37, pos := "l04_graph.go:136", after := #[], guard := none }) rfl (fun K hK => ?_) ?_
        · go_simp
          refine hK.out _ _ trivial (fun hHeld => ?_)
          clear hK K
          try simp only [Act.put, List.setIfInBounds_toArray, List.set_cons_zero, List.set_cons_succ]
          refine wpAnyH_ready (rs := [4]) (by kernel_rfl) (by simp) ?_
          refine AllReadyH.cons (o := { dst := some 21, op := Go.Op.call { callee := Go.Callee.value (Go.Operand.func 102), args := #[Go.Operand.tmp 18, Go.Operand.tmp 20], argTypes := #[83, 3] }, type := 42, pos := "l04_graph.go:136", after := #[{ on := 1, ground := Go.Ground.data }, { on := 3, ground := Go.Ground.data }], guard := none }) rfl (fun K hK => ?_) ?_
          · go_simp
            go_wp2_with (go_at_call 102; refine (l04Edge_any _ p n cap ao (2 + x0) (by omega) (by omega) (HCU2.out.below ((Below.refl _ _).drew) HCU2.out.lt)).mono ?_; rintro e w3 ⟨x, rfl, HX, HC3, HK3⟩)
            have HK3' : Hid (KeptBut p w2 w3) := ((KeptBut.refl p w2).below ((Below.refl _ _).drew)).trans HK3.out
            have HKK3 : Hid (KeptBut p w w3) := HKK2.out.trans HK3'.out
            have HG3 : Hid (Blk w3 B3 2 (fun i => if i = 0 then .int .i64 (2 + x0) else .slice a nL cL)) := HG2.out.keptBut HK3'.out HPB.out.2
            have HR3 : Hid (Blk w3 B 2 (fun i => if i = 0 then .int .i64 0 else .slice none 0 0)) := HR2.out.keptBut HK3'.out HPB.out.1
            have HE3 : Hid (EdgesIn (B3 + 1) w3.heap.size w3 a L) := (HE2.out.keptBut HK3'.out HPP.out (Nat.le_refl _)).wide (Nat.le_refl _) HK3'.out.size
            obtain ⟨c0, c1⟩ := blk_pair_cells HG3.out
            clear HK3 HK3' HKK2 HG2 HR2 HE2 HCU2
            refine hK.out _ _ trivial (fun hHeld => ?_)
            clear hK K
            try simp only [Act.put, List.setIfInBounds_toArray, List.set_cons_zero, List.set_cons_succ]
            refine wpAnyH_ready (rs := [5]) (by kernel_rfl) (by simp) ?_
            refine AllReadyH.cons (o := { dst := some 22, op := Go.Op.call { callee := Go.Callee.value (Go.Operand.func 46), args := #[Go.Operand.tmp 17, Go.Operand.tmp 21], argTypes := #[37, 42] }, type := 43, pos := "l04_graph.go:136", after := #[{ on := 0, ground := Go.Ground.data }, { on := 4, ground := Go.Ground.data }, { on := 4, ground := Go.Ground.chain }], guard := none }) rfl (fun K hK => ?_) ?_
            · go_simp
              go_wp2_with (go_at_call 46; refine (specGAdd_any (B3 + 1) _ (2 + x0) a nL cL L x w3 HE3.out (Nat.le_refl _) HLN.out (by have := HLN.out; have := HLO.out.2.1; omega)).mono ?_; rintro e w4 ⟨a4, n4, c4, ok4, rfl, HOK4, HN4, HE4, HB4⟩)
              have HC4 : Hid (CurL p ao n cap w4) := HC3.out.below HB4.out HC3.out.lt
              have HKK4 : Hid (KeptBut p w w4) := HKK3.out.below HB4.out
              have HG4 : Hid (Blk w4 B3 2 (fun i => if i = 0 then .int .i64 (2 + x0) else .slice a nL cL)) := HG3.out.of_block (HB4.out.block _ HG3.out.lt)
              have HR4 : Hid (Blk w4 B 2 (fun i => if i = 0 then .int .i64 0 else .slice none 0 0)) := HR3.out.of_block (HB4.out.block _ HR3.out.lt)
              have HE4' : Hid (EdgesOwn (B3 + 1) w4.heap.size w4 a4 (gaddL (2 + x0) L x)) := HE4.out.wide HG3.out.lt (Nat.le_refl _)
              clear HC3 HKK3 HG3 HR3 HE3 HE4 HB4 HOK4 c0 c1
              refine hK.out _ _ trivial (fun hHeld => ?_)
              clear hK K
              try simp only [Act.put, List.setIfInBounds_toArray, List.set_cons_zero, List.set_cons_succ]
              refine wpAnyH_take (i := 6) (oi := { dst := some 16, op := Go.Op.move (Go.Operand.tmp 22), type := 43, pos := "l04_graph.go:136", after := #[{ on := 5, ground := Go.Ground.data }], guard := none }) (v := ?_) rfl (by kernel_rfl) (by kernel_rfl) (by kernel_rfl) (fun _ _ _ h => h) (Or.inl ⟨by kernel_rfl, ?_⟩) (by assumption) ?_
              rotate_left
              · intro w hSw; (try dsimp only at hSw); go_simp; try with_reducible rfl
              simp only [Act.put, List.setIfInBounds_toArray, List.set_cons_zero, List.set_cons_succ]
              refine wpAnyH_take (i := 7) (oi := { dst := some 23, op := Go.Op.extract (Go.Operand.tmp 16) 0, type := 37, pos := "l04_graph.go:136", after := #[{ on := 6, ground := Go.Ground.data }], guard := none }) (v := ?_) rfl (by kernel_rfl) (by kernel_rfl) (by kernel_rfl) (fun _ _ _ h => h) (Or.inl ⟨by kernel_rfl, ?_⟩) (by assumption) ?_
              rotate_left
              · intro w hSw; (try dsimp only at hSw); go_simp; try with_reducible rfl
              simp only [Act.put, List.setIfInBounds_toArray, List.set_cons_zero, List.set_cons_succ]
              refine wpAnyH_take (i := 8) (oi := { dst := some 24, op := Go.Op.extract (Go.Operand.tmp 16) 1, type := 4, pos := "l04_graph.go:136", after := #[{ on := 6, ground := Go.Ground.data }, { on := 9, ground := Go.Ground.gcOnly Go.Departure.lateStores }], guard := none }) (v := ?_) rfl (by kernel_rfl) (by kernel_rfl) (by kernel_rfl) (fun _ _ _ h => h) (Or.inl ⟨by kernel_rfl, ?_⟩) (by assumption) ?_
              rotate_left
              · intro w hSw; (try dsimp only at hSw); go_simp; try with_reducible rfl
              simp only [Act.put, List.setIfInBounds_toArray, List.set_cons_zero, List.set_cons_succ]
              refine wpAnyH_ready (rs := [9]) (by kernel_rfl) (by simp) ?_
              refine AllReadyH.cons (o := { dst := none, op := Go.Op.store 37 (Go.Operand.tmp 3) (Go.Operand.tmp 23), type := 0, pos := "l04_graph.go:136", after := #[{ on := 7, ground := Go.Ground.data }, { on := 5, ground := Go.Ground.chain }, { on := 0, ground := Go.Ground.phase }, { on := 1, ground := Go.Ground.phase }, { on := 2, ground := Go.Ground.phase }, { on := 3, ground := Go.Ground.phase }, { on := 4, ground := Go.Ground.phase }, { on := 5, ground := Go.Ground.phase }, { on := 6, ground := Go.Ground.phase }, { on := 7, ground := Go.Ground.phase }, { on := 8, ground := Go.Ground.textOnly Go.Departure.lateStores }], guard := none }) rfl (fun K hK => ?_) ?_
              · obtain ⟨d0, d1⟩ := blk_pair_cells HG4.out
                have df0 := HG4.out.frozen 0
                have df1 := HG4.out.frozen 1
                go_simp
                refine hK.out _ _ trivial (fun hHeld => ?_)
                clear hK K
                try simp only [Act.put, List.setIfInBounds_toArray, List.set_cons_zero, List.set_cons_succ]
                refine wpAnyH_done (by kernel_rfl) ?_ _
                clear hHeld d0 d1 df0 df1
                go_wp2
                go_roundw
                case rel => exact ⟨j + 1, a4, n4, c4, _, by go_num, by omega, HN4, graph_rel (by omega) HPL.out HE4'.out HG4.out HR4.out HC4.out HKK4.out (gadd_drawn HLO.out HX.out hj9 (by omega) (by omega))⟩
                case measure => simp [intOf]; omega
              exact AllReadyH.nil
            exact AllReadyH.nil
          exact AllReadyH.nil
        refine AllReadyH.cons (o := { dst := some 21, op := Go.Op.call { callee := Go.Callee.value (Go.Operand.func 102), args := #[Go.Operand.tmp 18, Go.Operand.tmp 20], argTypes := #[83, 3] }, type := 42, pos := "l04_graph.go:136", after := #[{ on := 1, ground := Go.Ground.data }, { on := 3, ground := Go.Ground.data }], guard := none }) rfl (fun K hK => ?_) ?_
        · go_simp
          go_wp2_with (go_at_call 102; refine (l04Edge_any _ p n cap ao (2 + x0) (by omega) (by omega) (HCU2.out.below ((Below.refl _ _).drew) HCU2.out.lt)).mono ?_; rintro e w3 ⟨x, rfl, HX, HC3, HK3⟩)
          have HK3' : Hid (KeptBut p w2 w3) := ((KeptBut.refl p w2).below ((Below.refl _ _).drew)).trans HK3.out
          have HKK3 : Hid (KeptBut p w w3) := HKK2.out.trans HK3'.out
          have HG3 : Hid (Blk w3 B3 2 (fun i => if i = 0 then .int .i64 (2 + x0) else .slice a nL cL)) := HG2.out.keptBut HK3'.out HPB.out.2
          have HR3 : Hid (Blk w3 B 2 (fun i => if i = 0 then .int .i64 0 else .slice none 0 0)) := HR2.out.keptBut HK3'.out HPB.out.1
          have HE3 : Hid (EdgesIn (B3 + 1) w3.heap.size w3 a L) := (HE2.out.keptBut HK3'.out HPP.out (Nat.le_refl _)).wide (Nat.le_refl _) HK3'.out.size
          obtain ⟨c0, c1⟩ := blk_pair_cells HG3.out
          clear HK3 HK3' HKK2 HG2 HR2 HE2 HCU2
          refine hK.out _ _ trivial (fun hHeld => ?_)
          clear hK K
          try simp only [Act.put, List.setIfInBounds_toArray, List.set_cons_zero, List.set_cons_succ]
          refine wpAnyH_ready (rs := [0]) (by kernel_rfl) (by simp) ?_
          refine AllReadyH.cons (o := { dst := some 17, op := Go.Op.load 37 (Go.Operand.tmp 3), type := 37, pos := "l04_graph.go:136", after := #[], guard := none }) rfl (fun K hK => ?_) ?_
          · go_simp
            refine hK.out _ _ trivial (fun hHeld => ?_)
            clear hK K
            try simp only [Act.put, List.setIfInBounds_toArray, List.set_cons_zero, List.set_cons_succ]
            refine wpAnyH_ready (rs := [5]) (by kernel_rfl) (by simp) ?_
            refine AllReadyH.cons (o := { dst := some 22, op := Go.Op.call { callee := Go.Callee.value (Go.Operand.func 46), args := #[Go.Operand.tmp 17, Go.Operand.tmp 21], argTypes := #[37, 42] }, type := 43, pos := "l04_graph.go:136", after := #[{ on := 0, ground := Go.Ground.data }, { on := 4, ground := Go.Ground.data }, { on := 4, ground := Go.Ground.chain }], guard := none }) rfl (fun K hK => ?_) ?_
            · go_simp
              go_wp2_with (go_at_call 46; refine (specGAdd_any (B3 + 1) _ (2 + x0) a nL cL L x w3 HE3.out (Nat.le_refl _) HLN.out (by have := HLN.out; have := HLO.out.2.1; omega)).mono ?_; rintro e w4 ⟨a4, n4, c4, ok4, rfl, HOK4, HN4, HE4, HB4⟩)
              have HC4 : Hid (CurL p ao n cap w4) := HC3.out.below HB4.out HC3.out.lt
              have HKK4 : Hid (KeptBut p w w4) := HKK3.out.below HB4.out
              have HG4 : Hid (Blk w4 B3 2 (fun i => if i = 0 then .int .i64 (2 + x0) else .slice a nL cL)) := HG3.out.of_block (HB4.out.block _ HG3.out.lt)
              have HR4 : Hid (Blk w4 B 2 (fun i => if i = 0 then .int .i64 0 else .slice none 0 0)) := HR3.out.of_block (HB4.out.block _ HR3.out.lt)
              have HE4' : Hid (EdgesOwn (B3 + 1) w4.heap.size w4 a4 (gaddL (2 + x0) L x)) := HE4.out.wide HG3.out.lt (Nat.le_refl _)
              clear HC3 HKK3 HG3 HR3 HE3 HE4 HB4 HOK4 c0 c1
              refine hK.out _ _ trivial (fun hHeld => ?_)
              clear hK K
              try simp only [Act.put, List.setIfInBounds_toArray, List.set_cons_zero, List.set_cons_succ]
              refine wpAnyH_take (i := 6) (oi := { dst := some 16, op := Go.Op.move (Go.Operand.tmp 22), type := 43, pos := "l04_graph.go:136", after := #[{ on := 5, ground := Go.Ground.data }], guard := none }) (v := ?_) rfl (by kernel_rfl) (by kernel_rfl) (by kernel_rfl) (fun _ _ _ h => h) (Or.inl ⟨by kernel_rfl, ?_⟩) (by assumption) ?_
              rotate_left
              · intro w hSw; (try dsimp only at hSw); go_simp; try with_reducible rfl
              simp only [Act.put, List.setIfInBounds_toArray, List.set_cons_zero, List.set_cons_succ]
              refine wpAnyH_take (i := 7) (oi := { dst := some 23, op := Go.Op.extract (Go.Operand.tmp 16) 0, type := 37, pos := "l04_graph.go:136", after := #[{ on := 6, ground := Go.Ground.data }], guard := none }) (v := ?_) rfl (by kernel_rfl) (by kernel_rfl) (by kernel_rfl) (fun _ _ _ h => h) (Or.inl ⟨by kernel_rfl, ?_⟩) (by assumption) ?_
              rotate_left
              · intro w hSw; (try dsimp only at hSw); go_simp; try with_reducible rfl
              simp only [Act.put, List.setIfInBounds_toArray, List.set_cons_zero, List.set_cons_succ]
              refine wpAnyH_take (i := 8) (oi := { dst := some 24, op := Go.Op.extract (Go.Operand.tmp 16) 1, type := 4, pos := "l04_graph.go:136", after := #[{ on := 6, ground := Go.Ground.data }, { on := 9, ground := Go.Ground.gcOnly Go.Departure.lateStores }], guard := none }) (v := ?_) rfl (by kernel_rfl) (by kernel_rfl) (by kernel_rfl) (fun _ _ _ h => h) (Or.inl ⟨by kernel_rfl, ?_⟩) (by assumption) ?_
              rotate_left
              · intro w hSw; (try dsimp only at hSw); go_simp; try with_reducible rfl
              simp only [Act.put, List.setIfInBounds_toArray, List.set_cons_zero, List.set_cons_succ]
              refine wpAnyH_ready (rs := [9]) (by kernel_rfl) (by simp) ?_
              refine AllReadyH.cons (o := { dst := none, op := Go.Op.store 37 (Go.Operand.tmp 3) (Go.Operand.tmp 23), type := 0, pos := "l04_graph.go:136", after := #[{ on := 7, ground := Go.Ground.data }, { on := 5, ground := Go.Ground.chain }, { on := 0, ground := Go.Ground.phase }, { on := 1, ground := Go.Ground.phase }, { on := 2, ground := Go.Ground.phase }, { on := 3, ground := Go.Ground.phase }, { on := 4, ground := Go.Ground.phase }, { on := 5, ground := Go.Ground.phase }, { on := 6, ground := Go.Ground.phase }, { on := 7, ground := Go.Ground.phase }, { on := 8, ground := Go.Ground.textOnly Go.Departure.lateStores }], guard := none }) rfl (fun K hK => ?_) ?_
              · obtain ⟨d0, d1⟩ := blk_pair_cells HG4.out
                have df0 := HG4.out.frozen 0
                have df1 := HG4.out.frozen 1
                go_simp
                refine hK.out _ _ trivial (fun hHeld => ?_)
                clear hK K
                try simp only [Act.put, List.setIfInBounds_toArray, List.set_cons_zero, List.set_cons_succ]
                refine wpAnyH_done (by kernel_rfl) ?_ _
                clear hHeld d0 d1 df0 df1
                go_wp2
                go_roundw
                case rel => exact ⟨j + 1, a4, n4, c4, _, by go_num, by omega, HN4, graph_rel (by omega) HPL.out HE4'.out HG4.out HR4.out HC4.out HKK4.out (gadd_drawn HLO.out HX.out hj9 (by omega) (by omega))⟩
                case measure => simp [intOf]; omega
              exact AllReadyH.nil
            exact AllReadyH.nil
          exact AllReadyH.nil
        exact AllReadyH.nil
      exact AllReadyH.nil
    · obtain ⟨r0, r1⟩ := blk_pair_cells HR2.out
      have rf0 := HR2.out.frozen 0
      have rf1 := HR2.out.frozen 1
      go_wp2
      refine bodyPost_ret (v := .agg #[.int .i64 (2 + x0), .slice a nL cL]) (by simp [results, Try.results71, go_sem, r0, r1]) rfl ?_
      have hl := HPL.out
      refine ⟨_, a, nL, cL, L, rfl, HLN, ?_, ⟨⟨HLO.out.1, Nat.le_trans HLO.out.2.1 hj, fun _ => HLO.out.2.2 (by omega)⟩, by omega, by omega⟩, ?_, ?_⟩
      · refine (HE2.out.kept (p := fun k => k = B) ?_ (Nat.le_refl _) (fun k h1 _ e => by omega)).wide (by omega) (by simp)
        exact ((KeptP.refl (fun k => k = B) w2).setCell (g := B) rfl _).setCell (g := B) rfl _
      · exact HCU2.out.below (((Below.refl B w2).setCell (Nat.le_refl _) _).setCell (Nat.le_refl _) _) (by omega)
      · exact (HKK2.out.setOut (by omega) _).setOut (by omega) _

set_option maxHeartbeats 1000000 in
set_option maxRecDepth 100000 in
theorem drawGraph_any (w : World) (n cap : Nat) (ao : Option Addr) (hn : n ≤ 1048576) (hc : CodeIn w ao n) :
    Calls Try.prog 23 #[.slice ao n cap] w fun e w' => ∃ (s : Int) (a : Option Addr) (nL cL : Nat) (L : List Ed), e = .returned (gv s a nL cL) ∧ Hid (L.length = nL) ∧ Hid (EdgesIn w.heap.size w'.heap.size w' a L) ∧ Hid (GDr s L 10 ∧ 2 ≤ s ∧ s ≤ 5) ∧ Hid (Below w.heap.size w w') := by
  obtain ⟨B, HB⟩ : ∃ B, Hid (w.heap.size = B) := ⟨_, rfl⟩
  have HC : Hid (CodeIn w ao n) := hc
  clear hc
  go_enter Try.func23, Try.ntmps23
  go_wp2_with fail
  rw [HB.out]
  generalize hW : World.alloc _ _ = W
  have HC1 : Hid (CodeIn W ao n) := by show CodeIn _ _ _; rw [← hW]; exact HC.out.below (below1 w _)
  have HB1 : Hid (Below B w W) := by show Below _ _ _; rw [← hW, ← HB.out]; exact below1 w _
  have HR1 : Hid (Blk W B 2 (fun i => if i = 0 then .int .i64 0 else .slice none 0 0)) := by show Blk _ _ _ _; rw [← hW]; exact blk_two w B HB.out.symm _ _ _
  clear hW
  refine (new_any W ao n cap hn HC1.out).mono ?_
  rintro e w1 ⟨rfl, hc1, hb1⟩
  obtain ⟨p, HP⟩ : ∃ p, Hid (p = W.heap.size) := ⟨_, rfl⟩
  have HCU : Hid (CurL p ao n cap w1) := by rw [HP.out]; exact ⟨hc1, cur_start HC1.out⟩
  have HPB : Hid (B < p) := by show B < p; rw [HP.out]; exact HR1.out.lt
  have HR2 : Hid (Blk w1 B 2 (fun i => if i = 0 then .int .i64 0 else .slice none 0 0)) := HR1.out.of_block (hb1.block _ HR1.out.lt)
  have HB2 : Hid (Below B w w1) := HB1.out.trans (hb1.mono (by have := HPB.out; have := HP.out; omega))
  rw [← HP.out]
  clear hc1 hb1 HR1 HB1 HC1
  go_wp2_with fail
  refine (l04Graph_any w1 p n cap ao HCU.out).mono ?_
  rintro e w2 ⟨s, a, nL, cL, L, rfl, HLN, HE, HGD, HC2, HK2⟩
  have HR3 : Hid (Blk w2 B 2 (fun i => if i = 0 then .int .i64 0 else .slice none 0 0)) := HR2.out.keptBut HK2.out (by have := HPB.out; omega)
  have HB3 : Hid (Below B w w2) := HB2.out.trans (HK2.out.to_below (Nat.le_of_lt HPB.out) (by have := HR2.out.lt; omega))
  have HSZ : Hid (B < w1.heap.size) := HR2.out.lt
  clear HR2 HB2 HCU HC2
  obtain ⟨r0, r1⟩ := blk_pair_cells HR3.out
  have rf0 := HR3.out.frozen 0
  have rf1 := HR3.out.frozen 1
  go_wp2
  refine bodyPost_ret (v := .agg #[.int .i64 s, .slice a nL cL]) (by simp [results, Try.results23, go_sem, r0, r1]) rfl ?_
  have hl := HB.out
  have hz := HSZ.out
  refine ⟨s, a, nL, cL, L, rfl, HLN, ?_, HGD, ?_⟩
  · refine (HE.out.kept (p := fun k => k = B) ?_ (Nat.le_refl _) (fun k h1 _ e => by omega)).wide (by omega) (by simp)
    exact ((KeptP.refl (fun k => k = B) w2).setCell (g := B) rfl _).setCell (g := B) rfl _
  · rw [hl]; exact (HB3.out.setCell (Nat.le_refl _) _).setCell (Nat.le_refl _) _
end Go.Proofs.Ytelikebpddhncaa

/-
  slices.Index, slices.Contains at edges.
-/
namespace Go.Proofs.Ytelikebpddhncaa
open Go.RowKit

set_option maxRecDepth 100000 in
theorem eql_edge (x0 x1 x2 y0 y1 y2 : Int) (q : Bool) (w : World) (hq : q = decide ((x0, x1, x2) = ((y0, y1, y2) : Ed))) : (binOp .eql 42 (.agg #[.int .i64 x0, .int .u8 x1, .int .i64 x2]) (.agg #[.int .i64 y0, .int .u8 y1, .int .i64 y2])).run Try.prog w = .ok (.bool q) w := by
  have u3 := Try.underlying3
  have a3 := Try.isAgg3
  have z3 := Try.sizeOf3
  have u5 := Try.underlying5
  have a5 := Try.isAgg5
  have z5 := Try.sizeOf5
  have hS : Try.prog.underlying 42 = some (.struct (Try.prog.fieldsOf 42)) := by kernel_rfl
  have hp : Try.prog.stoodInHeld 42 = false := by kernel_rfl
  rw [run_eql_struct, show (10000 : Nat) = 9999 + 1 from rfl, run_equalIn_agg w 9999 42 _ _ hS hp]
  simp only [Program.fieldsOf, Try.underlying42]
  rw [hq]
  go_simp
  by_cases h1 : x0 = y0 <;> by_cases h2 : x1 = y1 <;> by_cases h3 : x2 = y2 <;> simp [h1, h2, h3]

/-- where an edge is met first; -1: nowhere -/
def idxE (l : List Ed) (e : Ed) (k : Nat) : Prop := ∀ i, i < k → eat l i ≠ e

set_option maxHeartbeats 2000000 in
set_option maxRecDepth 100000 in
theorem indexE_any (lo hi : Nat) (a : Option Addr) (n cap : Nat) (l : List Ed) (e : Ed) (w : World) (ha : EdgesIn lo hi w a l) (hh : hi ≤ w.heap.size) (hn : l.length = n) (hm : n ≤ 1048576) :
    Calls Try.prog 104 #[.slice a n cap, ev e] w fun r w' => ∃ z : Int, r = .returned (.int .i64 z) ∧ Hid (decide (0 ≤ z) = decide (e ∈ l)) ∧ Hid (Below w.heap.size w w') := by
  have HN : Hid (l.length = n) := hn
  have HA : Hid (EdgesIn lo hi w a l) := ha
  have HH : Hid (hi ≤ w.heap.size) := hh
  obtain ⟨B, HB⟩ : ∃ B, Hid (B = w.heap.size) := ⟨_, rfl⟩
  clear ha hh hn
  obtain ⟨e0, e1, e2⟩ := e
  go_enter Try.func104, Try.ntmps104
  go_wp2
  rw [← HB.out]
  go_loopw [8] (fun i wr => ∃ k : Nat, i = .int .i64 k ∧ k ≤ n ∧ Hid (∀ j, j < k → eat l j ≠ (e0, e1, e2)) ∧ Hid (Below w.heap.size w wr) ∧ Hid (Blk wr B 3 (fun i => if i = 0 then .int .i64 e0 else if i = 1 then .int .u8 e1 else .int .i64 e2))) (fun i _ => n - (intOf i).toNat)
  case atStart => exact ⟨0, rfl, by omega, fun j hj => absurd hj (by omega), below1 _ _, blk_three w B HB.out _ _ _ _⟩
  case round =>
    obtain ⟨k, rfl, hk, HP, HL, HK⟩ := hrel
    by_cases hlt : k < n
    · have hlt1 : (k : Int) < (n : Int) := by omega
      have hlt0 : (0 : Int) ≤ (k : Int) := by omega
      obtain ⟨b, o, rfl, _, _, hx⟩ := (HA.out.below HL.out HH.out).edge (k := k) (by rw [HN.out]; exact hlt)
      obtain ⟨x, HXX⟩ : ∃ x : Ed, Hid (x = eat l k) := ⟨_, rfl⟩
      rw [← HXX.out] at hx
      obtain ⟨x0, x1, x2⟩ := x
      obtain ⟨p0, p1, p2⟩ := hx
      dsimp only at p0 p1 p2
      have c0 : wr.cell? ⟨B, 0, none⟩ = some (.int .i64 e0) := HK.out.cell (i := 0) (by omega)
      have c1 : wr.cell? ⟨B, 1, none⟩ = some (.int .u8 e1) := HK.out.cell (i := 1) (by omega)
      have c2 : wr.cell? ⟨B, 2, none⟩ = some (.int .i64 e2) := HK.out.cell (i := 2) (by omega)
      by_cases he : (e0, e1, e2) = ((x0, x1, x2) : Ed)
      · have hq := fun w => eql_edge e0 e1 e2 x0 x1 x2 true w (decide_eq_true he).symm
        have HIN : Hid ((e0, e1, e2) ∈ l) := by
          show _ ∈ _
          rw [he, HXX.out, eat_get (by rw [HN.out]; exact hlt)]
          exact List.getElem_mem _
        clear he
        go_wp2_with fail
        go_quiet (fail)
        go_wp2
        go_ret
        refine ⟨(k : Int), rfl, ?_, below_drewN HL.out _⟩
        show _ = _
        rw [decide_eq_true HIN.out]; simp
      · have hq := fun w => eql_edge e0 e1 e2 x0 x1 x2 false w (decide_eq_false he).symm
        have HNE : Hid ((e0, e1, e2) ≠ ((x0, x1, x2) : Ed)) := he
        clear he
        go_wp2_with fail
        go_quiet (fail)
        go_wp2
        go_roundw
        case rel =>
          refine ⟨k + 1, by go_num, by omega, fun j hj => ?_, below_drewN HL.out _, HK⟩
          by_cases ej : j = k
          · subst ej; rw [← HXX.out]; exact fun h => HNE.out h.symm
          · exact HP.out j (by omega)
        case measure => simp [intOf]; omega
    · obtain rfl : k = n := by omega
      go_wp2
      go_ret
      refine ⟨-1, rfl, ?_, HL⟩
      show _ = _
      have : ¬ (e0, e1, e2) ∈ l := by
        intro h
        obtain ⟨i, hi, e⟩ := List.getElem_of_mem h
        exact HP.out i (by rw [← HN.out]; exact hi) (by rw [eat_get hi, e])
      rw [decide_eq_false this]; simp
set_option maxHeartbeats 1000000 in
set_option maxRecDepth 100000 in
theorem containsE_any (lo hi : Nat) (a : Option Addr) (n cap : Nat) (l : List Ed) (e : Ed) (q : Bool) (w : World) (ha : EdgesIn lo hi w a l) (hh : hi ≤ w.heap.size) (hn : l.length = n) (hm : n ≤ 1048576) (hq : q = decide (e ∈ l)) :
    Calls Try.prog 74 #[.slice a n cap, ev e] w fun r w' => r = .returned (.bool q) ∧ Hid (Below w.heap.size w w') := by
  have HN : Hid (l.length = n) := hn
  have HA : Hid (EdgesIn lo hi w a l) := ha
  have HH : Hid (hi ≤ w.heap.size) := hh
  have HQ : Hid (q = decide (e ∈ l)) := hq
  clear ha hh hn hq
  obtain ⟨e0, e1, e2⟩ := e
  go_enter Try.func74, Try.ntmps74
  go_wp2_with fail
  refine (indexE_any lo hi a n cap l (e0, e1, e2) _ (HA.out.below (below1 w _) HH.out) (by have := HH.out; simp; omega) HN.out hm).mono ?_
  rintro e w1 ⟨z, rfl, HZ, HB⟩
  have HL : Hid (Below w.heap.size w w1) := (below1 w _).trans (HB.out.mono (by simp))
  have hd : decide (0 ≤ z) = q := by rw [HZ.out, HQ.out]
  have hd' : decide (z ≥ 0) = q := hd
  go_wp2
  go_ret
  exact ⟨rfl, HL⟩
end Go.Proofs.Ytelikebpddhncaa

/-
  Laid off the shelf at this translation: slices.Sort, slices.Compact over ints.
-/
namespace Go.Proofs.Ytelikebpddhncaa
open Go.Shelf
def Try.lays189_ren : Go.Shelf.Ren := ⟨fun | 189 => 78 | 125 => 106 | 257 => 110 | 128 => 123 | 129 => 124 | 294 => 127 | 295 => 128 | 296 => 129 | 297 => 130 | 298 => 131 | 299 => 132 | 216 => 133 | 300 => 134 | 301 => 135 | 328 => 142 | 329 => 138 | 330 => 139 | 331 => 143 | 332 => 144 | 215 => 125 | 343 => 146 | n => n, fun | 28 => 39 | 3 => 3 | 46 => 123 | 0 => 0 | 51 => 145 | 53 => 147 | 4 => 4 | 183 => 138 | 182 => 137 | 131 => 142 | 5 => 5 | 9 => 9 | 218 => 155 | 222 => 159 | 228 => 163 | 229 => 164 | n => n, fun | n => n⟩
theorem Try.lays189 : Go.Proofs.Lays.n189 Try.prog Try.lays189_ren := {
  mixed := by kernel_rfl
  f125 := Try.func106.trans (congrArg some (by kernel_rfl))
  f128 := Try.func123.trans (congrArg some (by kernel_rfl))
  f129 := Try.func124.trans (congrArg some (by kernel_rfl))
  f189 := Try.func78.trans (congrArg some (by kernel_rfl))
  f215 := Try.func125.trans (congrArg some (by kernel_rfl))
  f216 := Try.func133.trans (congrArg some (by kernel_rfl))
  f257 := Try.func110.trans (congrArg some (by kernel_rfl))
  f294 := Try.func127.trans (congrArg some (by kernel_rfl))
  f295 := Try.func128.trans (congrArg some (by kernel_rfl))
  f296 := Try.func129.trans (congrArg some (by kernel_rfl))
  f297 := Try.func130.trans (congrArg some (by kernel_rfl))
  f298 := Try.func131.trans (congrArg some (by kernel_rfl))
  f299 := Try.func132.trans (congrArg some (by kernel_rfl))
  f300 := Try.func134.trans (congrArg some (by kernel_rfl))
  f301 := Try.func135.trans (congrArg some (by kernel_rfl))
  f328 := Try.func142.trans (congrArg some (by kernel_rfl))
  f329 := Try.func138.trans (congrArg some (by kernel_rfl))
  f330 := Try.func139.trans (congrArg some (by kernel_rfl))
  f331 := Try.func143.trans (congrArg some (by kernel_rfl))
  f332 := Try.func144.trans (congrArg some (by kernel_rfl))
  f343 := Try.func146.trans (congrArg some (by kernel_rfl))
  t0 := Try.underlying0
  a0 := Try.isAgg0
  z0 := Try.sizeOf0
  v0 := Try.zeroValue0
  t3 := Try.underlying3
  a3 := Try.isAgg3
  z3 := Try.sizeOf3
  v3 := Try.zeroValue3
  t4 := Try.underlying4
  a4 := Try.isAgg4
  z4 := Try.sizeOf4
  v4 := Try.zeroValue4
  t5 := Try.underlying5
  a5 := Try.isAgg5
  z5 := Try.sizeOf5
  v5 := Try.zeroValue5
  t9 := Try.underlying9
  a9 := Try.isAgg9
  z9 := Try.sizeOf9
  v9 := Try.zeroValue9
  t28 := Try.underlying39
  a28 := Try.isAgg39
  z28 := Try.sizeOf39
  v28 := Try.zeroValue39
  t46 := Try.underlying123
  a46 := Try.isAgg123
  z46 := Try.sizeOf123
  v46 := Try.zeroValue123
  t51 := Try.underlying145
  a51 := Try.isAgg145
  z51 := Try.sizeOf145
  v51 := Try.zeroValue145
  t53 := Try.underlying147
  a53 := Try.isAgg147
  z53 := Try.sizeOf147
  v53 := Try.zeroValue147
  t131 := Try.underlying142
  a131 := Try.isAgg142
  z131 := Try.sizeOf142
  v131 := Try.zeroValue142
  t182 := Try.underlying137
  a182 := Try.isAgg137
  z182 := Try.sizeOf137
  v182 := Try.zeroValue137
  t183 := Try.underlying138
  a183 := Try.isAgg138
  z183 := Try.sizeOf138
  v183 := Try.zeroValue138
  t218 := Try.underlying155
  a218 := Try.isAgg155
  z218 := Try.sizeOf155
  v218 := Try.zeroValue155
  t222 := Try.underlying159
  a222 := Try.isAgg159
  z222 := Try.sizeOf159
  v222 := Try.zeroValue159
  t228 := Try.underlying163
  a228 := Try.isAgg163
  z228 := Try.sizeOf163
  v228 := Try.zeroValue163
  t229 := Try.underlying164
  a229 := Try.isAgg164
  z229 := Try.sizeOf164
  v229 := Try.zeroValue164 }
open Go.Sort Go.RowKit in
theorem Try.slices_Sort_int (blk off cap : Nat) (zs : List Int) (w : World) (hH : Holds (Value.int .i64) w blk off zs.toArray) (hblk : blk < w.heap.size) (hsz : zs.length < 4611686018427387904) :
    Calls Try.prog 78 #[.slice (some ⟨blk, off, none⟩) zs.length cap] w fun e w' =>
      e = .returned (.tuple #[]) ∧ ∃ n os, w' = grow (putRow (Value.int .i64) (Sort.ahead w n) blk off (zs.mergeSort fun x y => decide (x ≤ y)).toArray) os := Any.slices_Sort_int Try.lays189 blk off cap zs w hH hblk hsz
def Try.laysNm220_ren : Go.Shelf.Ren := ⟨fun | 20 => 79 | n => n, fun | 22 => 39 | 3 => 3 | 4 => 4 | 0 => 0 | n => n, fun | n => n⟩
theorem Try.laysNm220 : Go.Proofs.Lays2.n20 Try.prog Try.laysNm220_ren := {
  mixed := by kernel_rfl
  f20 := Try.func79.trans (congrArg some (by kernel_rfl))
  t0 := Try.underlying0
  a0 := Try.isAgg0
  z0 := Try.sizeOf0
  v0 := Try.zeroValue0
  t3 := Try.underlying3
  a3 := Try.isAgg3
  z3 := Try.sizeOf3
  v3 := Try.zeroValue3
  t4 := Try.underlying4
  a4 := Try.isAgg4
  z4 := Try.sizeOf4
  v4 := Try.zeroValue4
  t22 := Try.underlying39
  a22 := Try.isAgg39
  z22 := Try.sizeOf39
  v22 := Try.zeroValue39
  i3 := by kernel_rfl }
open Go.RowKit Go.Lib Go.Sort in
theorem Try.slices_Compact_int (blk off cap : Nat) (zs : List Int) (w : World) (hH : Holds (Value.int .i64) w blk off zs.toArray) (hsz : zs.length ≤ 9223372036854775807) (hcap : zs.length ≤ cap) :
    Calls Try.prog 79 #[.slice (some ⟨blk, off, none⟩) zs.length cap] w fun e w' => e = .returned (.slice (some ⟨blk, off, none⟩) (Lib.compact zs).length cap) ∧ ∃ q, w' = putRow (Value.int .i64) (Sort.ahead w q) blk off (Lib.compact zs ++ List.replicate (zs.length - (Lib.compact zs).length) 0).toArray := Any.slices_Compact_int Try.laysNm220 blk off cap zs w hH hsz hcap
open Go.RowKit Go.Lib Go.Sort in
theorem Try.slices_Compact_int_empty (a : Option Addr) (cap : Nat) (w : World) :
    Calls Try.prog 79 #[.slice a 0 cap] w fun e w' => e = .returned (.slice a 0 cap) ∧ w' = w := Any.slices_Compact_int_empty Try.laysNm220 a cap w
open Go.RowKit Go.Sort in
theorem Try.slices_Sort_int_none (p : Option Addr) (cap : Nat) (w : World) :
    Calls Try.prog 78 #[.slice p 0 cap] w fun e w' => e = .returned (.tuple #[]) ∧ w' = w := Any.slices_Sort_int_none Try.lays189 p cap w
end Go.Proofs.Ytelikebpddhncaa

/-
  Numbers ascending, each once: the plain mathematics; slices.Sort and slices.Compact over a row of the call's own.
-/
namespace Go.Proofs.Ytelikebpddhncaa
open Go.RowKit

/-- ascending, each once -/
def SrtI (l : List Int) : Prop := l.Pairwise (· < ·)
theorem srtI_ext : ∀ {l l' : List Int}, SrtI l → SrtI l' → (∀ x, x ∈ l ↔ x ∈ l') → l = l'
  | [], [], _, _, _ => rfl
  | [], y :: ys, _, _, h => absurd ((h y).2 (by simp)) (by simp)
  | x :: xs, [], _, _, h => absurd ((h x).1 (by simp)) (by simp)
  | x :: xs, y :: ys, h1, h2, h => by
    have a1 := List.pairwise_cons.1 h1
    have a2 := List.pairwise_cons.1 h2
    have e : x = y := by
      have hx := (h x).1 (by simp)
      have hy := (h y).2 (by simp)
      rcases List.mem_cons.1 hx with e | e
      · exact e
      · rcases List.mem_cons.1 hy with e' | e'
        · exact e'.symm
        · have := a2.1 x e; have := a1.1 y e'; omega
    subst e
    congr 1
    refine srtI_ext a1.2 a2.2 fun z => ⟨fun hz => ?_, fun hz => ?_⟩
    · rcases List.mem_cons.1 ((h z).1 (List.mem_cons_of_mem _ hz)) with e | e
      · subst e; have := a1.1 z hz; omega
      · exact e
    · rcases List.mem_cons.1 ((h z).2 (List.mem_cons_of_mem _ hz)) with e | e
      · subst e; have := a2.1 z hz; omega
      · exact e
/-- a number put into its place -/
def putI (l : List Int) (x : Int) : List Int := l.filter (fun y => decide (y < x)) ++ x :: l.filter (fun y => decide (x < y))
theorem mem_putI {l : List Int} {x y : Int} : y ∈ putI l x ↔ y = x ∨ y ∈ l := by
  unfold putI
  simp only [List.mem_append, List.mem_cons, List.mem_filter, decide_eq_true_eq]
  constructor
  · rintro (h | h | h)
    · exact .inr h.1
    · exact .inl h
    · exact .inr h.1
  · rintro (h | h)
    · exact .inr (.inl h)
    · rcases Int.lt_trichotomy y x with h1 | h1 | h1
      · exact .inl ⟨h, h1⟩
      · exact .inr (.inl h1)
      · exact .inr (.inr ⟨h, h1⟩)
theorem srt_putI {l : List Int} (h : SrtI l) (x : Int) : SrtI (putI l x) := by
  unfold putI SrtI
  rw [List.pairwise_append]
  refine ⟨List.Pairwise.filter _ h, ?_, ?_⟩
  · rw [List.pairwise_cons]
    exact ⟨fun y hy => of_decide_eq_true (List.mem_filter.1 hy).2, List.Pairwise.filter _ h⟩
  · intro y hy z hz
    have h1 : y < x := of_decide_eq_true (List.mem_filter.1 hy).2
    rcases List.mem_cons.1 hz with rfl | hz
    · exact h1
    · have h2 : x < z := of_decide_eq_true (List.mem_filter.1 hz).2
      omega
theorem putI_len (l : List Int) (x : Int) : (putI l x).length ≤ l.length + 1 := by
  unfold putI
  have h1 : (l.filter (fun y => decide (y < x))).length + (l.filter (fun y => decide (x < y))).length ≤ l.length := by
    induction l with
    | nil => simp
    | cons y ys ih =>
      rcases Int.lt_trichotomy y x with h | h | h
      · simp only [List.filter_cons, h, decide_true, if_true, show ¬ x < y by omega, decide_false]; simp; omega
      · subst h; simp; omega
      · simp only [List.filter_cons, h, decide_true, if_true, show ¬ y < x by omega, decide_false]; simp; omega
  simp; omega
/-- numbers ascending, each once -/
def nextL (zs : List Int) : List Int := zs.foldl putI []
theorem foldI_srt (zs : List Int) : ∀ acc, SrtI acc → SrtI (zs.foldl putI acc) := by
  induction zs with
  | nil => intro acc h; exact h
  | cons x xs ih => intro acc h; exact ih _ (srt_putI h _)
theorem foldI_mem (zs : List Int) : ∀ acc x, x ∈ zs.foldl putI acc ↔ x ∈ acc ∨ x ∈ zs := by
  induction zs with
  | nil => intro acc x; simp
  | cons y ys ih =>
    intro acc x
    rw [List.foldl_cons, ih, mem_putI, List.mem_cons]
    constructor
    · rintro ((h | h) | h)
      · exact .inr (.inl h)
      · exact .inl h
      · exact .inr (.inr h)
    · rintro (h | h | h)
      · exact .inl (.inr h)
      · exact .inl (.inl h)
      · exact .inr h
theorem foldI_len (zs : List Int) : ∀ acc : List Int, (zs.foldl putI acc).length ≤ acc.length + zs.length := by
  induction zs with
  | nil => intro acc; simp
  | cons x xs ih => intro acc; rw [List.foldl_cons, List.length_cons]; have := ih (putI acc x); have := putI_len acc x; omega
theorem nextL_srt (zs : List Int) : SrtI (nextL zs) := foldI_srt zs [] List.Pairwise.nil
theorem nextL_mem {zs : List Int} {x : Int} : x ∈ nextL zs ↔ x ∈ zs := by unfold nextL; rw [foldI_mem]; simp
theorem nextL_len (zs : List Int) : (nextL zs).length ≤ zs.length := by have := foldI_len zs []; simpa [nextL] using this

theorem compact_upto (zs : List Int) (h : zs.Pairwise (· ≤ ·)) : ∀ m, m ≤ zs.length → SrtI (Lib.compactUpTo zs.toArray m) ∧ (∀ x, x ∈ Lib.compactUpTo zs.toArray m ↔ ∃ j, j < m ∧ zs.toArray[j]! = x) := by
  have hat : ∀ j, j < zs.length → zs.toArray[j]! = zs.getD j 0 := fun j hj => by
    rw [getElem!_pos zs.toArray j (by simpa using hj)]; simp [List.getD, hj]
  have hle : ∀ i j, i ≤ j → j < zs.length → zs.getD i 0 ≤ zs.getD j 0 := fun i j hij hj => by
    rcases Nat.lt_or_ge i j with h1 | h1
    · have := List.pairwise_iff_getElem.1 h i j (by omega) hj h1
      simpa [List.getD, hj, show i < zs.length by omega] using this
    · have : i = j := by omega
      subst this; exact Int.le_refl _
  intro m
  induction m with
  | zero => intro _; exact ⟨List.Pairwise.nil, fun x => by simp [Lib.compactUpTo]⟩
  | succ m ih =>
    intro hm
    obtain ⟨h1, h2⟩ := ih (by omega)
    rw [Lib.compactUpTo_succ]
    by_cases hk : Lib.keeps zs.toArray m = true
    · rw [if_pos hk]
      refine ⟨?_, fun x => ?_⟩
      · unfold SrtI
        rw [List.pairwise_append]
        refine ⟨h1, by simp, fun x hx y hy => ?_⟩
        rw [List.mem_singleton] at hy
        subst hy
        obtain ⟨j, hj, rfl⟩ := (h2 x).1 hx
        have hk' := of_decide_eq_true hk
        rcases hk' with h0 | h0
        · omega
        · rw [hat m (by omega), hat (m - 1) (by omega)] at h0
          rw [hat j (by omega), hat m (by omega)]
          have e1 := hle j (m - 1) (by omega) (by omega)
          have e2 := hle (m - 1) m (by omega) (by omega)
          omega
      · rw [List.mem_append, h2]
        constructor
        · rintro (⟨j, hj, e⟩ | h)
          · exact ⟨j, by omega, e⟩
          · simp at h; exact ⟨m, by omega, by simp [h]⟩
        · rintro ⟨j, hj, e⟩
          rcases Nat.lt_or_ge j m with h3 | h3
          · exact .inl ⟨j, h3, e⟩
          · have : j = m := by omega
            subst this; exact .inr (by simpa using e.symm)
    · rw [if_neg hk, List.append_nil]
      refine ⟨h1, fun x => ?_⟩
      rw [h2]
      constructor
      · rintro ⟨j, hj, e⟩; exact ⟨j, by omega, e⟩
      · rintro ⟨j, hj, e⟩
        rcases Nat.lt_or_ge j m with h3 | h3
        · exact ⟨j, h3, e⟩
        · have hjm : j = m := by omega
          subst hjm
          have hf : ¬ (j = 0 ∨ zs.toArray[j]! ≠ zs.toArray[j - 1]!) := fun h => hk (decide_eq_true h)
          have h0 : j ≠ 0 := fun h => hf (.inl h)
          have h4 : zs.toArray[j]! = zs.toArray[j - 1]! := Decidable.byContradiction fun h => hf (.inr h)
          exact ⟨j - 1, by omega, by rw [← h4, e]⟩
/-- sorted, then each once -/
theorem compact_is {zs Z : List Int} (hp : Z.Perm zs) (hs : Z.Pairwise (· ≤ ·)) : Lib.compact Z = nextL zs := by
  obtain ⟨h1, h2⟩ := compact_upto Z hs Z.length (Nat.le_refl _)
  refine srtI_ext h1 (nextL_srt zs) fun x => ?_
  rw [nextL_mem, ← hp.mem_iff]
  unfold Lib.compact
  rw [h2]
  constructor
  · rintro ⟨j, hj, e⟩
    rw [getElem!_pos Z.toArray j (by simpa using hj)] at e
    rw [← e]; simp
  · intro hx
    obtain ⟨j, hj, e⟩ := List.getElem_of_mem hx
    exact ⟨j, hj, by rw [getElem!_pos Z.toArray j (by simpa using hj)]; simpa using e⟩

open Go.Sort in
theorem holds_row {w : World} {b : Nat} {zs : List Int} (h : Blk w b zs.length (fun i => .int .i64 (zs.getD i 0))) : Holds (Value.int .i64) w b 0 zs.toArray := by
  intro j hj
  have hj' : j < zs.length := by simpa using hj
  rw [Nat.zero_add]
  refine ⟨?_, h.frozen j⟩
  rw [h.cell hj', getElem!_pos zs.toArray j hj]
  simp [List.getD, hj']
open Go.Sort in
theorem blk_put {w : World} {b n q : Nat} {zs Z : List Int} {os : Array Obj} (h : Blk w b zs.length (fun i => .int .i64 (zs.getD i 0))) (hl : Z.length = zs.length) (hn : n ≤ Z.length) : Blk (grow (putRow (Value.int .i64) (Sort.ahead w q) b 0 Z.toArray) os) b n (fun i => .int .i64 (Z.getD i 0)) ∧ KeptP (fun k => k = b) w (grow (putRow (Value.int .i64) (Sort.ahead w q) b 0 Z.toArray) os) := by
  have hb := h.lt
  have hsz : (putRow (Value.int .i64) (Sort.ahead w q) b 0 Z.toArray).heap.size = w.heap.size := by rw [size_putRow]; rfl
  have hH : Holds (Value.int .i64) (Sort.ahead w q) b 0 zs.toArray := holds_row h
  have hH' := holds_putRow (Value.int .i64) (Sort.ahead w q) b 0 zs.toArray Z.toArray hH (by simpa using hl)
  refine ⟨?_, rfl, rfl, rfl, ?_, fun k hk hne => ?_⟩
  · obtain ⟨cur, e, hheap, _⟩ := h
    have hg : (grow (putRow (Value.int .i64) (Sort.ahead w q) b 0 Z.toArray) os).heap[b]? = some (.cells (putCells (Value.int .i64) 0 Z.toArray cur) e (0, 0)) := by
      rw [heap_grow_old _ _ (by rw [hsz]; exact hb)]
      simp [putRow, mapBlock, Sort.ahead, Array.getElem?_modify, hheap, onCells]
    refine ⟨_, e, hg, fun i hi => ?_⟩
    have h6 := (hH' i (by simp; omega)).1
    rw [Nat.zero_add, ← cell?_grow _ os _ (by rw [hsz]; exact hb), getElem!_pos Z.toArray i (by simp; omega)] at h6
    unfold World.cell? at h6
    rw [hg] at h6
    simpa [List.getD, show i < Z.length by omega] using h6
  · show w.heap.size ≤ (grow _ os).heap.size
    unfold grow
    simp only [Array.size_append, hsz]
    omega
  · rw [heap_grow_old _ _ (by rw [hsz]; exact hk)]
    simp [putRow, mapBlock, Sort.ahead, Array.getElem?_modify, Ne.symm hne]

theorem sortInts_any (lo hi n cap : Nat) (a : Option Addr) (zs : List Int) (w : World) (ho : RowOwn lo hi w a zs) (hl : zs.length = n) (hn : n ≤ 1048576) :
    Calls Try.prog 78 #[.slice a n cap] w fun e w' => e = .returned (.tuple #[]) ∧ ∃ Z : List Int, Hid (Z.Perm zs ∧ Z.Pairwise (· ≤ ·)) ∧ Hid (RowOwn lo hi w' a Z) ∧ Hid (KeptP (fun k => lo ≤ k ∧ k < hi) w w') := by
  subst hl
  rcases ho with rfl | ⟨b, rfl, h1, h2, h3⟩
  · refine (Try.slices_Sort_int_none a cap w).mono ?_
    rintro e w' ⟨rfl, rfl⟩
    exact ⟨rfl, [], ⟨List.Perm.refl _, List.Pairwise.nil⟩, .inl rfl, KeptP.refl _ _⟩
  · refine (Try.slices_Sort_int b 0 cap zs w (holds_row h3) h3.lt (by omega)).mono ?_
    rintro e w' ⟨rfl, q, os, rfl⟩
    have hp := List.mergeSort_perm zs (fun x y : Int => decide (x ≤ y))
    have hlen := hp.length_eq
    obtain ⟨g1, g2⟩ := blk_put (q := q) (os := os) (n := (zs.mergeSort fun x y : Int => decide (x ≤ y)).length) h3 hlen (Nat.le_refl _)
    refine ⟨rfl, zs.mergeSort fun x y : Int => decide (x ≤ y), ⟨hp, ?_⟩, .inr ⟨b, rfl, h1, h2, g1⟩, g2.mono (fun k hk => by rw [hk]; exact ⟨h1, h2⟩)⟩
    have := List.pairwise_mergeSort (le := fun x y : Int => decide (x ≤ y)) (fun a b c h1 h2 => by simp at *; omega) (fun a b => by simp; omega) zs
    exact this.imp fun h => by simpa using h
theorem compactInts_any (lo hi n cap : Nat) (a : Option Addr) (Z : List Int) (w : World) (ho : RowOwn lo hi w a Z) (hl : Z.length = n) (hn : n ≤ 1048576) (hc : n ≤ cap) :
    Calls Try.prog 79 #[.slice a n cap] w fun e w' => ∃ m : Nat, e = .returned (.slice a m cap) ∧ Hid ((Lib.compact Z).length = m) ∧ Hid (RowOwn lo hi w' a (Lib.compact Z)) ∧ Hid (KeptP (fun k => lo ≤ k ∧ k < hi) w w') := by
  subst hl
  rcases ho with rfl | ⟨b, rfl, h1, h2, h3⟩
  · refine (Try.slices_Compact_int_empty a cap w).mono ?_
    rintro e w' ⟨rfl, rfl⟩
    exact ⟨0, rfl, rfl, .inl rfl, KeptP.refl _ _⟩
  · refine (Try.slices_Compact_int b 0 cap Z w (holds_row h3) (by omega) hc).mono ?_
    rintro e w' ⟨rfl, q, rfl⟩
    have hle : (Lib.compact Z).length ≤ Z.length := by unfold Lib.compact Lib.compactUpTo; rw [List.length_map]; exact Nat.le_trans (List.length_filter_le _ _) (by simp)
    obtain ⟨g1, g2⟩ := blk_put (q := q) (os := #[]) (n := (Lib.compact Z).length) (Z := Lib.compact Z ++ List.replicate (Z.length - (Lib.compact Z).length) 0) h3 (by simp; omega) (by simp)
    rw [Go.Sort.grow_empty] at g1 g2
    refine ⟨_, rfl, rfl, .inr ⟨b, rfl, h1, h2, g1.congr fun i hi => ?_⟩, g2.mono (fun k hk => by rw [hk]; exact ⟨h1, h2⟩)⟩
    simp [List.getD, List.getElem?_append_left hi]
end Go.Proofs.Ytelikebpddhncaa

/-
  What is next, as far as place k; spec.l04Sorted.
-/
namespace Go.Proofs.Ytelikebpddhncaa
open Go.RowKit

/-- what edges lead on to, as far as place k -/
def nxTo (l : List Ed) (f b8 : Int) (k : Nat) : List Int := ((l.take k).filter (fun e => decide (e.1 = f) && decide (e.2.1 = b8))).map (fun e => e.2.2)
theorem nxTo_step {l : List Ed} {f b8 : Int} {k : Nat} (h : k < l.length) : nxTo l f b8 (k + 1) = nxTo l f b8 k ++ (if (decide ((eat l k).1 = f) && decide ((eat l k).2.1 = b8)) = true then [(eat l k).2.2] else []) := by
  unfold nxTo
  rw [filter_step (p := fun e => decide (e.1 = f) && decide (e.2.1 = b8)) h, List.map_append]
  split <;> simp
theorem nxTo_len (l : List Ed) (f b8 : Int) (k : Nat) : (nxTo l f b8 k).length ≤ k := by
  unfold nxTo; rw [List.length_map]; exact filter_len l k
/-- what is next, ascending, each once -/
def nextE (l : List Ed) (f b8 : Int) : List Int := nextL (nxTo l f b8 l.length)
theorem nextE_mem {l : List Ed} {f b8 x : Int} : x ∈ nextE l f b8 ↔ (f, b8, x) ∈ l := by
  unfold nextE nxTo
  rw [nextL_mem, List.take_length, List.mem_map]
  constructor
  · rintro ⟨⟨y0, y1, y2⟩, hy, rfl⟩
    obtain ⟨h1, h2⟩ := List.mem_filter.1 hy
    simp at h2
    obtain ⟨rfl, rfl⟩ := h2
    exact h1
  · intro h
    exact ⟨(f, b8, x), List.mem_filter.2 ⟨h, by simp⟩, rfl⟩
theorem nextE_len (l : List Ed) (f b8 : Int) : (nextE l f b8).length ≤ l.length := Nat.le_trans (nextL_len _) (nxTo_len l f b8 _)
theorem rowCells_snoc (l : List Int) (x : Int) : rowCells (l ++ [x]) = rowCells l ++ [.int .i64 x] := by simp [rowCells]
theorem owns_cap {B n cap : Nat} {w : World} {a : Option Addr} {xs : List Value} (h : w.ownsRow B 3 1 (.slice a n cap) n xs) : n ≤ cap := by
  rcases h.2 with ⟨h1, h2⟩ | ⟨g, cap', cur, h1, _, _, h4, _⟩
  · omega
  · simp only [Value.slice.injEq] at h1
    obtain ⟨_, _, rfl⟩ := h1
    exact h4
theorem owns_row {B n : Nat} {w : World} {v : Value} {l : List Int} (h : w.ownsRow B 3 1 v n (rowCells l)) (hn : l.length = n) : ∃ a cap, v = .slice a n cap ∧ RowIn B w.heap.size w a l := by
  obtain ⟨a, cap, h1, h2⟩ := rowOwn_of h hn
  exact ⟨a, cap, h1, h2.toIn⟩
theorem filterI_step {p : Int → Bool} {l : List Int} {k : Nat} (h : k < l.length) : (l.take (k + 1)).filter p = (l.take k).filter p ++ (if p (l.getD k 0) = true then [l.getD k 0] else []) := by
  rw [take_snocI l h, List.filter_append]
  by_cases hp : p (l.getD k 0) = true
  · simp only [List.getD] at hp ⊢; simp [hp]
  · simp only [List.getD] at hp ⊢; simp [hp]
theorem filterI_len {p : Int → Bool} (l : List Int) (k : Nat) : ((l.take k).filter p).length ≤ k := Nat.le_trans (List.length_filter_le _ _) (by rw [List.length_take]; omega)
theorem foldI_step {zs : List Int} {k : Nat} (h : k < zs.length) : nextL (zs.take (k + 1)) = putI (nextL (zs.take k)) (zs.getD k 0) := by
  unfold nextL
  rw [take_snocI zs h, List.foldl_append]
  rfl
theorem nextTake_len (zs : List Int) (k : Nat) : (nextL (zs.take k)).length ≤ k := Nat.le_trans (nextL_len _) (by rw [List.length_take]; omega)
/-- a number of a row that lies -/
theorem RowIn.num {lo hi i : Nat} {w : World} {a : Option Addr} {l : List Int} (h : RowIn lo hi w a l) (hi' : i < l.length) : ∃ b o, a = some ⟨b, o, none⟩ ∧ w.cell? ⟨b, o + i, none⟩ = some (.int .i64 (l.getD i 0)) := by
  rcases h with rfl | ⟨b, o, e, _, _, h3⟩
  · simp at hi'
  · exact ⟨b, o, e, h3 i hi'⟩

set_option maxHeartbeats 8000000 in
set_option maxRecDepth 100000 in
theorem l04Sorted_any (lo hi : Nat) (a : Option Addr) (n cap : Nat) (zs : List Int) (w : World) (ha : RowIn lo hi w a zs) (hh : hi ≤ w.heap.size) (hn : zs.length = n) (hm : n ≤ 1048576) :
    Calls Try.prog 77 #[.slice a n cap] w fun e w' => ∃ (a' : Option Addr) (n' cap' : Nat), e = .returned (.slice a' n' cap') ∧ Hid ((nextL zs).length = n') ∧ Hid (RowOwn w.heap.size w'.heap.size w' a' (nextL zs)) ∧ Hid (Below w.heap.size w w') := by
  have HN : Hid (zs.length = n) := hn
  have HA : Hid (RowIn lo hi w a zs) := ha
  have HH : Hid (hi ≤ w.heap.size) := hh
  obtain ⟨i0, hi0, hz0, hz1, hz2⟩ := info_parts Try.info3
  clear ha hh hn
  obtain ⟨B, HB⟩ : ∃ B, Hid (B = w.heap.size) := ⟨_, rfl⟩
  go_enter Try.func77, Try.ntmps77
  go_wp2
  rw [← HB.out]
  go_loopw [4, 3] (fun i v wr => ∃ k m : Nat, i = .int .i64 k ∧ k ≤ n ∧ Hid (wr.ownsRow B 3 1 v m (rowCells (nextL (zs.take k)))) ∧ Hid ((nextL (zs.take k)).length = m) ∧ Hid (Below B w wr)) (fun i _ _ => n - (intOf i).toNat)
  case atStart =>
    refine ⟨0, 0, rfl, by omega, ?_, rfl, ?_⟩
    · show World.ownsRow _ _ _ _ _ _ []
      have := World.ownsRow_made w (base := B) (e := 3) (size := 1) #[] 0 (by rw [HB.out]; exact Nat.le_refl _) (Nat.zero_le _) rfl
      simpa [HB.out] using this
    · exact (Below.refl _ _).alloc (by rw [HB.out]; exact Nat.le_refl _) _
  case round =>
    obtain ⟨k, m, rfl, hk, HO, HM, HL⟩ := hrel
    have hmk : m ≤ k := by rw [← HM.out]; exact nextTake_len zs k
    by_cases hlt : k < n
    · have hlt1 : (k : Int) < (n : Int) := by omega
      have hlt0 : (0 : Int) ≤ (k : Int) := by omega
      obtain ⟨oa, ocap, hov, HOI0⟩ := owns_row HO.out HM.out
      subst hov
      obtain ⟨OL, HOL⟩ : ∃ OL, Hid (OL = nextL (zs.take k)) := ⟨_, rfl⟩
      rw [← HOL.out] at HO HM HOI0
      obtain ⟨z, HZ⟩ : ∃ z, Hid (z = zs.getD k 0) := ⟨_, rfl⟩
      have HSTEP : Hid (nextL (zs.take (k + 1)) = putI OL z) := by show _ = _; rw [foldI_step (by rw [HN.out]; exact hlt), HOL.out, HZ.out]
      obtain ⟨X, HX⟩ : ∃ X, Hid (X = wr.heap.size) := ⟨_, rfl⟩
      obtain ⟨Wr, HWr⟩ : ∃ Wr, Hid (Wr = wr) := ⟨_, rfl⟩
      have HLr : Hid (Below B w Wr) := by rw [HWr.out]; exact HL
      have HXr : Hid (X = Wr.heap.size) := by rw [HWr.out]; exact HX
      have HOI : Hid (RowIn B X Wr oa OL) := by rw [HX.out, HWr.out]; exact HOI0
      have HBX : Hid (B ≤ X) := by have := HL.out.size; have := HB.out; rw [HX.out]; show _ ≤ _; omega
      have HAR : Hid (RowIn lo hi Wr a zs) := HA.out.below HLr.out (by have := HH.out; have := HB.out; omega)
      have HHX : Hid (hi ≤ X) := by have := HH.out; have := HB.out; have := HBX.out; show _ ≤ _; omega
      obtain ⟨F1, HF1⟩ : ∃ F : Nat → List Int, Hid (F = fun j => (OL.take j).filter (fun y => decide (y < z))) := ⟨_, rfl⟩
      obtain ⟨F2, HF2⟩ : ∃ F : Nat → List Int, Hid (F = fun j => (OL.take j).filter (fun y => decide (z < y))) := ⟨_, rfl⟩
      have HPUT : Hid (putI OL z = F1 m ++ (z :: F2 m)) := by show _ = _; rw [HF1.out, HF2.out, ← HM.out]; simp only [List.take_length]; rfl
      have HL1 : Hid (∀ j, (F1 j).length ≤ j) := by intro j; rw [HF1.out]; exact filterI_len OL j
      have HL2 : Hid (∀ j, (F2 j).length ≤ j) := by intro j; rw [HF2.out]; exact filterI_len OL j
      have HST1 : Hid (∀ j, j < m → F1 (j + 1) = F1 j ++ (if decide (OL.getD j 0 < z) = true then [OL.getD j 0] else [])) := by intro j hj; rw [HF1.out]; exact filterI_step (p := fun y => decide (y < z)) (by rw [HM.out]; exact hj)
      have HST2 : Hid (∀ j, j < m → F2 (j + 1) = F2 j ++ (if decide (z < OL.getD j 0) = true then [OL.getD j 0] else [])) := by intro j hj; rw [HF2.out]; exact filterI_step (p := fun y => decide (z < y)) (by rw [HM.out]; exact hj)
      have HZ1 : Hid (F1 0 = []) := by rw [HF1.out]; rfl
      have HZ2 : Hid (F2 0 = []) := by rw [HF2.out]; rfl
      have hst0 : (wr.alloc (.cells #[] 3)).ownsRow X 3 1 (.slice (some ⟨X, 0, none⟩) 0 0) 0 [] := by
        have := World.ownsRow_made wr (base := X) (e := 3) (size := 1) #[] 0 (by rw [HX.out]; exact Nat.le_refl _) (Nat.zero_le _) rfl
        simpa [HX.out] using this
      have HST0 : Hid ((wr.alloc (.cells #[] 3)).ownsRow X 3 1 (.slice (some ⟨X, 0, none⟩) 0 0) 0 []) := hst0
      have HB0 : Hid (Below X Wr (wr.alloc (.cells #[] 3))) := by rw [HX.out, HWr.out]; exact below1 wr _
      clear HF1 HF2 HOI0 hst0 HL HO HWr
      go_wp2
      rw [← HX.out]
      go_loopw [6, 5] (fun i v wq => ∃ j p : Nat, i = .int .i64 j ∧ j ≤ m ∧ Hid (wq.ownsRow X 3 1 v p (rowCells (F1 j))) ∧ Hid ((F1 j).length = p) ∧ Hid (Below X Wr wq)) (fun i _ _ => m - (intOf i).toNat)
      case atStart => exact ⟨0, 0, rfl, by omega, by rw [HZ1.out]; exact HST0, by show _ = _; rw [HZ1.out]; rfl, HB0⟩
      case round =>
        obtain ⟨j, p, rfl, hj, HQ, HP, HLQ⟩ := hrel
        have hpj : p ≤ j := by rw [← HP.out]; exact HL1.out j
        have hXq : X ≤ wr.heap.size := by have := HLQ.out.size; have := HXr.out; omega
        by_cases hjl : j < m
        · have hjl1 : (j : Int) < (m : Int) := by omega
          have hjl0 : (0 : Int) ≤ (j : Int) := by omega
          obtain ⟨zb, zo, hza, zc⟩ := (HAR.out.below HLQ.out HHX.out).num (i := k) (by rw [HN.out]; exact hlt)
          obtain ⟨yb, yo, hya, yc⟩ := (HOI.out.below HLQ.out (Nat.le_refl _)).num (i := j) (by rw [HM.out]; omega)
          rw [← HZ.out] at zc
          obtain ⟨y, HY⟩ : ∃ y, Hid (y = OL.getD j 0) := ⟨_, rfl⟩
          rw [← HY.out] at yc
          have HS1 : Hid (F1 (j + 1) = F1 j ++ (if decide (y < z) = true then [y] else [])) := by show _ = _; rw [HST1.out j (by omega), HY.out]
          subst hza hya
          by_cases hc : y < z
          · have hd : decide (y < z) = true := decide_eq_true hc
            obtain ⟨LL, HLL⟩ : ∃ LL, Hid (LL = F1 j) := ⟨_, rfl⟩
            rw [← HLL.out] at HQ
            have HE9 : Hid (F1 (j + 1) = LL ++ [y]) := by show _ = _; rw [HLL.out, HS1.out, hd]; simp
            clear HS1
            go_wp2_with fail
            go_quiet (fail)
            have HQd : Hid ((wr.drewN nq).ownsRow X 3 1 _ p (rowCells LL)) := HQ
            have HLQd : Hid (Below X Wr (wr.drewN nq)) := below_drewN HLQ.out _
            have hown := HQd.out.alloc (.cells #[.int .i64 y] 3)
            have zcd : (wr.drewN nq).cell? ⟨yb, yo + j, none⟩ = some (.int .i64 y) := yc
            have hXqd : X ≤ (wr.drewN nq).heap.size := hXq
            clear zc yc
            go_wp2_with (at_builtin; refine wpList_append_lies _ rfl (.tmp 31) (.tmp 36) 39 rfl X 3 i0 (.int .i64 0) 1 8 Try.underlying39 hi0 hz0 hz1 hz2 rfl (by decide) _ p (rowCells LL) rfl hown ⟨wr.heap.size, 0, none⟩ 1 1 [.int .i64 y] rfl rfl (cell_one_new' (wr.drewN nq) _ _) (by simp [Value.oneCell']) (by decide) (by unfold maxLen; omega) (by omega) (by simp; omega) _ rfl ?_)
            intro g1 cap1 w1 hown1 hgrow1 _ _
            have HQ1 : Hid (w1.ownsRow X 3 1 (.slice (some ⟨g1, 0, none⟩) (p + 1) cap1) (p + 1) (rowCells (LL ++ [y]))) := by rw [rowCells_snoc]; exact hown1
            have HLQ1 : Hid (Below X Wr w1) := (HLQd.out.alloc hXqd _).grown hgrow1 (by simp; omega) (fun k hk => (HQ.out.lt k hk).1)
            clear hown hown1 hgrow1
            go_wp2
            go_roundw
            case rel => exact ⟨j + 1, p + 1, by go_num, by omega, by rw [HE9.out]; exact HQ1, by show _ = _; rw [HE9.out, List.length_append, HLL.out, HP.out]; rfl, HLQ1⟩
            case measure => simp [intOf]; omega
          · have hd : decide (y < z) = false := decide_eq_false hc
            have HE9 : Hid (F1 (j + 1) = F1 j) := by show _ = _; rw [HS1.out, hd]; simp
            clear HS1
            go_wp2_with fail
            go_quiet (fail)
            have HLQd : Hid (Below X Wr (wr.drewN nq)) := below_drewN HLQ.out _
            go_wp2
            go_roundw
            case rel => exact ⟨j + 1, p, by go_num, by omega, by rw [HE9.out]; exact HQ, by show _ = _; rw [HE9.out, HP.out], HLQd⟩
            case measure => simp [intOf]; omega
        · obtain rfl : j = m := by omega
          obtain ⟨zb, zo, rfl, zc⟩ := (HAR.out.below HLQ.out HHX.out).num (i := k) (by rw [HN.out]; exact hlt)
          rw [← HZ.out] at zc
          have hown := HQ.out.alloc (.cells #[.int .i64 z] 3)
          go_wp2_with (at_builtin; refine wpList_append_lies _ rfl (.tmp 38) (.tmp 43) 39 rfl X 3 i0 (.int .i64 0) 1 8 Try.underlying39 hi0 hz0 hz1 hz2 rfl (by decide) _ p (rowCells (F1 j)) rfl hown ⟨wr.heap.size, 0, none⟩ 1 1 [.int .i64 z] rfl rfl (cell_one_new' _ _ _) (by simp [Value.oneCell']) (by decide) (by unfold maxLen; omega) (by omega) (by simp; omega) _ rfl ?_)
          intro g1 cap1 w1 hown1 hgrow1 _ _
          have HQ1 : Hid (w1.ownsRow X 3 1 (.slice (some ⟨g1, 0, none⟩) (p + 1) cap1) (p + 1) (rowCells (F1 j ++ [z]))) := by rw [rowCells_snoc]; exact hown1
          have HLQ1 : Hid (Below X Wr w1) := (HLQ.out.alloc hXq _).grown hgrow1 (by simp; omega) (fun k hk => (HQ.out.lt k hk).1)
          clear hown hown1 hgrow1 zc HQ HLQ
          go_wp2
          go_loopw [7, 5] (fun i v wq => ∃ j2 p2 : Nat, i = .int .i64 j2 ∧ j2 ≤ j ∧ Hid (wq.ownsRow X 3 1 v p2 (rowCells ((F1 j ++ [z]) ++ F2 j2))) ∧ Hid (((F1 j ++ [z]) ++ F2 j2).length = p2) ∧ Hid (Below X Wr wq)) (fun i _ _ => j - (intOf i).toNat)
          case atStart =>
            refine ⟨0, p + 1, rfl, by omega, ?_, by show _ = _; rw [HZ2.out, List.append_nil, List.length_append, HP.out]; rfl, HLQ1⟩
            rw [HZ2.out, List.append_nil]; exact HQ1
          case round =>
            obtain ⟨j2, p2, rfl, hj2, HQ, HP2, HLQ⟩ := hrel
            have hpj2 : p2 ≤ p + 1 + j2 := by rw [← HP2.out, List.length_append, List.length_append, HP.out]; have := HL2.out j2; simp; omega
            have hXq : X ≤ wr.heap.size := by have := HLQ.out.size; have := HXr.out; omega
            by_cases hjl : j2 < j
            · have hjl1 : (j2 : Int) < (j : Int) := by omega
              have hjl0 : (0 : Int) ≤ (j2 : Int) := by omega
              obtain ⟨zb2, zo2, hza, zc⟩ := (HAR.out.below HLQ.out HHX.out).num (i := k) (by rw [HN.out]; exact hlt)
              obtain ⟨yb, yo, hya, yc⟩ := (HOI.out.below HLQ.out (Nat.le_refl _)).num (i := j2) (by rw [HM.out]; omega)
              rw [← HZ.out] at zc
              obtain ⟨y, HY⟩ : ∃ y, Hid (y = OL.getD j2 0) := ⟨_, rfl⟩
              rw [← HY.out] at yc
              have HS1 : Hid (F2 (j2 + 1) = F2 j2 ++ (if decide (z < y) = true then [y] else [])) := by show _ = _; rw [HST2.out j2 (by omega), HY.out]
              simp only [Option.some.injEq, Addr.mk.injEq, and_true] at hza
              obtain ⟨rfl, rfl⟩ := hza
              subst hya
              by_cases hc : z < y
              · have hd : decide (z < y) = true := decide_eq_true hc
                obtain ⟨LL, HLL⟩ : ∃ LL, Hid (LL = (F1 j ++ [z]) ++ F2 j2) := ⟨_, rfl⟩
                rw [← HLL.out] at HQ
                have HE9 : Hid ((F1 j ++ [z]) ++ F2 (j2 + 1) = LL ++ [y]) := by show _ = _; rw [HLL.out, HS1.out, hd]; simp
                clear HS1
                go_wp2_with fail
                go_quiet (fail)
                have HQd : Hid ((wr.drewN nq).ownsRow X 3 1 _ p2 (rowCells LL)) := HQ
                have HLQd : Hid (Below X Wr (wr.drewN nq)) := below_drewN HLQ.out _
                have hown := HQd.out.alloc (.cells #[.int .i64 y] 3)
                have zcd : (wr.drewN nq).cell? ⟨yb, yo + j2, none⟩ = some (.int .i64 y) := yc
                have hXqd : X ≤ (wr.drewN nq).heap.size := hXq
                clear zc yc
                go_wp2_with (at_builtin; refine wpList_append_lies _ rfl (.tmp 60) (.tmp 65) 39 rfl X 3 i0 (.int .i64 0) 1 8 Try.underlying39 hi0 hz0 hz1 hz2 rfl (by decide) _ p2 (rowCells LL) rfl hown ⟨wr.heap.size, 0, none⟩ 1 1 [.int .i64 y] rfl rfl (cell_one_new' (wr.drewN nq) _ _) (by simp [Value.oneCell']) (by decide) (by unfold maxLen; omega) (by omega) (by simp; omega) _ rfl ?_)
                intro g1 cap1 w1 hown1 hgrow1 _ _
                have HQ1 : Hid (w1.ownsRow X 3 1 (.slice (some ⟨g1, 0, none⟩) (p2 + 1) cap1) (p2 + 1) (rowCells (LL ++ [y]))) := by rw [rowCells_snoc]; exact hown1
                have HLQ1 : Hid (Below X Wr w1) := (HLQd.out.alloc hXqd _).grown hgrow1 (by simp; omega) (fun k hk => (HQ.out.lt k hk).1)
                clear hown hown1 hgrow1
                go_wp2
                go_roundw
                case rel => exact ⟨j2 + 1, p2 + 1, by go_num, by omega, by rw [HE9.out]; exact HQ1, by show _ = _; rw [HE9.out, List.length_append, HLL.out, HP2.out]; rfl, HLQ1⟩
                case measure => simp [intOf]; omega
              · have hd : decide (z < y) = false := decide_eq_false hc
                have HE9 : Hid ((F1 j ++ [z]) ++ F2 (j2 + 1) = (F1 j ++ [z]) ++ F2 j2) := by show _ = _; rw [HS1.out, hd]; simp
                clear HS1
                go_wp2_with fail
                go_quiet (fail)
                have HLQd : Hid (Below X Wr (wr.drewN nq)) := below_drewN HLQ.out _
                go_wp2
                go_roundw
                case rel => exact ⟨j2 + 1, p2, by go_num, by omega, by rw [HE9.out]; exact HQ, by show _ = _; rw [HE9.out, HP2.out], HLQd⟩
                case measure => simp [intOf]; omega
            · obtain rfl : j2 = j := by omega
              have HFIN := HQ.out
              rw [List.append_assoc, List.singleton_append, ← HPUT.out, ← HSTEP.out] at HFIN
              have HFX : Hid (wr.ownsRow X 3 1 _ p2 (rowCells (nextL (zs.take (k + 1))))) := HFIN
              have HFL : Hid ((nextL (zs.take (k + 1))).length = p2) := by have h := HP2.out; rw [List.append_assoc, List.singleton_append, ← HPUT.out, ← HSTEP.out] at h; exact h
              clear HFIN
              go_wp2
              go_roundw
              case rel => exact ⟨k + 1, p2, by go_num, by omega, owns_low HFX.out HBX.out, HFL, HLr.out.trans (HLQ.out.mono HBX.out)⟩
              case measure => simp [intOf]; omega
    · obtain rfl : k = n := by omega
      have HT : Hid (nextL (zs.take k) = nextL zs) := by show _ = _; rw [List.take_of_length_le (by rw [HN.out]; exact Nat.le_refl _)]
      rw [HT.out] at HO HM
      obtain ⟨a9, cap9, hv9, HR9⟩ := rowOwn_of HO.out HM.out
      have HR9' : Hid (RowOwn B wr.heap.size wr a9 (nextL zs)) := HR9
      subst hv9
      go_wp2
      go_ret
      exact ⟨a9, m, cap9, rfl, HM, by rw [← HB.out]; exact HR9', by rw [← HB.out]; exact HL⟩
end Go.Proofs.Ytelikebpddhncaa

/-
  laws.sameGraph at equal graphs; laws.in.
-/
namespace Go.Proofs.Ytelikebpddhncaa
open Go.RowKit

set_option maxRecDepth 100000 in
theorem neq_edge (x0 x1 x2 : Int) (w : World) : (binOp .neq 42 (.agg #[.int .i64 x0, .int .u8 x1, .int .i64 x2]) (.agg #[.int .i64 x0, .int .u8 x1, .int .i64 x2])).run Try.prog w = .ok (.bool false) w := by
  have u3 := Try.underlying3
  have a3 := Try.isAgg3
  have z3 := Try.sizeOf3
  have u5 := Try.underlying5
  have a5 := Try.isAgg5
  have z5 := Try.sizeOf5
  have hS : Try.prog.underlying 42 = some (.struct (Try.prog.fieldsOf 42)) := by kernel_rfl
  have hp : Try.prog.stoodInHeld 42 = false := by kernel_rfl
  rw [run_neq_struct, show (10000 : Nat) = 9999 + 1 from rfl, run_equalIn_agg w 9999 42 _ _ hS hp]
  simp only [Program.fieldsOf, Try.underlying42]
  go_simp
  try simp

set_option maxHeartbeats 2000000 in
set_option maxRecDepth 100000 in
theorem sameGraph_any (lo hi lo' hi' : Nat) (s : Int) (a a' : Option Addr) (n cap cap' : Nat) (l : List Ed) (w : World) (ha : EdgesIn lo hi w a l) (hb : EdgesIn lo' hi' w a' l) (hh : hi ≤ w.heap.size) (hh' : hi' ≤ w.heap.size) (hn : l.length = n) (hm : n ≤ 1048576) :
    Calls Try.prog 29 #[gv s a n cap, gv s a' n cap'] w fun e w' => e = .returned (.bool true) ∧ Hid (Below w.heap.size w w') := by
  have HN : Hid (l.length = n) := hn
  have HA : Hid (EdgesIn lo hi w a l) := ha
  have HBB : Hid (EdgesIn lo' hi' w a' l) := hb
  have HH : Hid (hi ≤ w.heap.size ∧ hi' ≤ w.heap.size) := ⟨hh, hh'⟩
  obtain ⟨B, HB⟩ : ∃ B, Hid (B = w.heap.size) := ⟨_, rfl⟩
  clear ha hb hn hh hh'
  have HK0 : Hid (Blk ((w.alloc (.cells #[.int .i64 s, .slice a n cap] 37)).alloc (.cells #[.int .i64 s, .slice a' n cap'] 37)) B 2 (fun i => if i = 0 then .int .i64 s else .slice a n cap)) := (blk_two w B HB.out _ _ _).alloc _
  have HK1 : Hid (Blk ((w.alloc (.cells #[.int .i64 s, .slice a n cap] 37)).alloc (.cells #[.int .i64 s, .slice a' n cap'] 37)) (B + 1) 2 (fun i => if i = 0 then .int .i64 s else .slice a' n cap')) := blk_two _ (B + 1) (by rw [HB.out]; simp) _ _ _
  go_enter Try.func29, Try.ntmps29
  go_wp2
  rw [← HB.out]
  go_loopw [5] (fun i wr => ∃ k : Nat, i = .int .i64 k ∧ k ≤ n ∧ Hid (Blk wr B 2 (fun i => if i = 0 then .int .i64 s else .slice a n cap)) ∧ Hid (Blk wr (B + 1) 2 (fun i => if i = 0 then .int .i64 s else .slice a' n cap')) ∧ Hid (Below w.heap.size w wr)) (fun i _ => n - (intOf i).toNat)
  case atStart => exact ⟨0, rfl, by omega, HK0, HK1, below2 w _ _⟩
  case round =>
    obtain ⟨k, rfl, hk, HKA, HKB, HL⟩ := hrel
    have q0 : wr.cell? ⟨B, 1, none⟩ = some (.slice a n cap) := HKA.out.cell (i := 1) (by omega)
    have q1 : wr.cell? ⟨B + 1, 1, none⟩ = some (.slice a' n cap') := HKB.out.cell (i := 1) (by omega)
    by_cases hlt : k < n
    · have hlt1 : (k : Int) < (n : Int) := by omega
      have hlt0 : (0 : Int) ≤ (k : Int) := by omega
      obtain ⟨b, o, rfl, _, _, hx⟩ := (HA.out.below HL.out HH.out.1).edge (k := k) (by rw [HN.out]; exact hlt)
      obtain ⟨b', o', rfl, _, _, hx'⟩ := (HBB.out.below HL.out HH.out.2).edge (k := k) (by rw [HN.out]; exact hlt)
      obtain ⟨x, HXX⟩ : ∃ x : Ed, Hid (x = eat l k) := ⟨_, rfl⟩
      rw [← HXX.out] at hx hx'
      obtain ⟨x0, x1, x2⟩ := x
      obtain ⟨p0, p1, p2⟩ := hx
      obtain ⟨p0', p1', p2'⟩ := hx'
      dsimp only at p0 p1 p2 p0' p1' p2'
      have hq := fun w => neq_edge x0 x1 x2 w
      go_wp2
      go_quiet (fail)
      go_wp2
      go_round
      case rel => exact ⟨k + 1, by go_num, by omega, HKA.out.of_block rfl, HKB.out.of_block rfl, below_drewN HL.out _⟩
      case measure => simp [intOf]; omega
    · obtain rfl : k = n := by omega
      go_wp2
      go_ret
      exact ⟨rfl, HL⟩

set_option maxHeartbeats 1000000 in
set_option maxRecDepth 100000 in
theorem in_any (lo hi : Nat) (a : Option Addr) (n cap : Nat) (l : List Int) (x : Int) (w : World) (ha : RowIn lo hi w a l) (hn : l.length = n) (hm : n ≤ 1048576) (hx : x ∈ l) :
    Calls Try.prog 26 #[.slice a n cap, .int .i64 x] w fun e w' => e = .returned (.bool true) ∧ Hid (Below w.heap.size w w') := by
  obtain ⟨j, hj, hjx⟩ := List.getElem_of_mem hx
  rcases ha with h0 | ⟨b, o, rfl, _, _, hc⟩
  · subst h0; simp at hj
  have HC : Hid (∀ i, i < l.length → w.cell? ⟨b, o + i, none⟩ = some (.int .i64 (l.getD i 0))) := fun i hi => hc i hi
  have HJ : Hid (l.getD j 0 = x) := by show _ = _; rw [← hjx]; simp [List.getD, hj]
  have HN : Hid (l.length = n) := hn
  have hj' : j < n := by omega
  clear hc hx hjx hj hn
  go_enter Try.func26, Try.ntmps26
  go_wp2
  go_loop [5] (fun i => ∃ k : Nat, i = .int .i64 k ∧ k ≤ j) (fun i => n - (intOf i).toNat)
  case atStart => exact ⟨0, rfl, by omega⟩
  case round =>
    obtain ⟨k, rfl, hk⟩ := hrel
    have hlt1 : (k : Int) < (n : Int) := by omega
    have hlt0 : (0 : Int) ≤ (k : Int) := by omega
    obtain ⟨z, HZ⟩ : ∃ z : Int, Hid (z = l.getD k 0) := ⟨_, rfl⟩
    have hcell : w.cell? ⟨b, o + k, none⟩ = some (.int .i64 z) := by rw [HZ.out]; exact HC.out k (by rw [HN.out]; omega)
    by_cases he : z = x
    · subst he
      go_wp2
      go_ret
      exact ⟨rfl, Below.refl _ _⟩
    · have hne : k < j := by
        rcases Nat.lt_or_ge k j with h | h
        · exact h
        · obtain rfl : k = j := by omega
          exact absurd (HZ.out.trans HJ.out) he
      go_wp2
      go_round
      case rel => exact ⟨k + 1, by go_num, by omega⟩
      case measure => simp [intOf]; omega
end Go.Proofs.Ytelikebpddhncaa

/-
  impl.NextOf, spec.NextOf.
-/
namespace Go.Proofs.Ytelikebpddhncaa
open Go.RowKit


set_option maxHeartbeats 4000000 in
set_option maxRecDepth 100000 in
theorem nextOf_any (lo hi : Nat) (s : Int) (a : Option Addr) (n cap : Nat) (l : List Ed) (f b8 : Int) (w : World) (ha : EdgesIn lo hi w a l) (hh : hi ≤ w.heap.size) (hn : l.length = n) (hm : n ≤ 1048576) :
    Calls Try.prog 28 #[gv s a n cap, .int .i64 f, .int .u8 b8] w fun e w' => ∃ (a' : Option Addr) (n' cap' : Nat), e = .returned (.slice a' n' cap') ∧ Hid ((nextE l f b8).length = n') ∧ Hid (RowOwn w.heap.size w'.heap.size w' a' (nextE l f b8)) ∧ Hid (Below w.heap.size w w') := by
  have HN : Hid (l.length = n) := hn
  have HA : Hid (EdgesIn lo hi w a l) := ha
  have HH : Hid (hi ≤ w.heap.size) := hh
  obtain ⟨i0, hi0, hz0, hz1, hz2⟩ := info_parts Try.info3
  clear ha hh hn
  obtain ⟨B, HB⟩ : ∃ B, Hid (B = w.heap.size) := ⟨_, rfl⟩
  obtain ⟨W0, HW0⟩ : ∃ W0, Hid (W0 = (w.alloc (.cells #[.int .i64 s, .slice a n cap] 37))) := ⟨_, rfl⟩
  have HK0 : Hid (Blk W0 B 2 (fun i => if i = 0 then .int .i64 s else .slice a n cap)) := by rw [HW0.out]; exact blk_two w B HB.out _ _ _
  have HBW : Hid (Below w.heap.size w W0) := by rw [HW0.out]; exact below1 w _
  have HSW : Hid (W0.heap.size = B + 1) := by rw [HW0.out, HB.out]; show _ = _; simp
  have HAW : Hid (EdgesIn lo hi W0 a l) := HA.out.below HBW.out HH.out
  have HHW : Hid (hi ≤ W0.heap.size) := Nat.le_trans HH.out HBW.out.size
  obtain ⟨c0, c1⟩ := blk_pair_cells HK0.out
  go_enter Try.func28, Try.ntmps28
  go_wp2
  rw [← HB.out, ← HW0.out]
  clear HW0 c0 c1
  go_loopw [14, 7] (fun i v wr => ∃ k m : Nat, i = .int .i64 k ∧ k ≤ n ∧ Hid (wr.ownsRow (B + 1) 3 1 v m (rowCells (nxTo l f b8 k))) ∧ Hid ((nxTo l f b8 k).length = m) ∧ Hid (Below (B + 1) W0 wr)) (fun i _ _ => n - (intOf i).toNat)
  case atStart =>
    refine ⟨0, 0, rfl, by omega, ?_, rfl, ?_⟩
    · show World.ownsRow _ _ _ _ _ _ []
      have := World.ownsRow_made W0 (base := B + 1) (e := 3) (size := 1) #[] 0 (by rw [HSW.out]; exact Nat.le_refl _) (Nat.zero_le _) rfl
      simpa [HSW.out] using this
    · exact (Below.refl _ _).alloc (by rw [HSW.out]; exact Nat.le_refl _) _
  case round =>
    obtain ⟨k, m, rfl, hk, HO, HM, HL⟩ := hrel
    have hmk : m ≤ k := by rw [← HM.out]; exact nxTo_len l f b8 k
    have HKR : Hid (Blk wr B 2 (fun i => if i = 0 then .int .i64 s else .slice a n cap)) := HK0.out.of_block (HL.out.block _ (by omega))
    obtain ⟨c0, c1⟩ := blk_pair_cells HKR.out
    have hszr : B + 1 ≤ wr.heap.size := by have := HL.out.size; have := HSW.out; omega
    by_cases hlt : k < n
    · have hlt1 : (k : Int) < (n : Int) := by omega
      have hlt0 : (0 : Int) ≤ (k : Int) := by omega
      have HBR : Hid (EdgesIn lo hi wr a l) := HAW.out.below HL.out (by have := HHW.out; have := HSW.out; omega)
      obtain ⟨b, o, rfl, _, _, hx⟩ := HBR.out.edge (k := k) (by rw [HN.out]; exact hlt)
      obtain ⟨x, HXX⟩ : ∃ x : Ed, Hid (x = eat l k) := ⟨_, rfl⟩
      rw [← HXX.out] at hx
      have HST : Hid (nxTo l f b8 (k + 1) = nxTo l f b8 k ++ (if (decide (x.1 = f) && decide (x.2.1 = b8)) = true then [x.2.2] else [])) := by show _ = _; rw [nxTo_step (by rw [HN.out]; exact hlt), ← HXX.out]
      obtain ⟨x0, x1, x2⟩ := x
      obtain ⟨p0, p1, p2⟩ := hx
      dsimp only at p0 p1 p2
      have HLa : Hid (Below (B + 1) W0 (wr.alloc (.cells #[.int .i64 x0, .int .u8 x1, .int .i64 x2] 42))) := HL.out.alloc hszr _
      have HOa : Hid ((wr.alloc (.cells #[.int .i64 x0, .int .u8 x1, .int .i64 x2] 42)).ownsRow (B + 1) 3 1 _ m (rowCells (nxTo l f b8 k))) := HO.out.alloc _
      by_cases h0 : f = x0
      · subst h0
        by_cases h1 : b8 = x1
        · subst h1
          have HST2 : Hid (nxTo l f b8 (k + 1) = nxTo l f b8 k ++ [x2]) := by show _ = _; rw [HST.out]; simp
          clear HST
          have hown := HOa.out.alloc (.cells #[.int .i64 x2] 3)
          go_wp2_with (at_builtin; refine wpList_append_lies _ rfl (.tmp 28) (.tmp 31) 39 rfl (B + 1) 3 i0 (.int .i64 0) 1 8 Try.underlying39 hi0 hz0 hz1 hz2 rfl (by decide) _ m (rowCells (nxTo l f b8 k)) rfl hown ⟨wr.heap.size + 1, 0, none⟩ 1 1 [.int .i64 x2] rfl rfl ?q1 (by simp [Value.oneCell']) (by decide) (by unfold maxLen; omega) (by omega) (by simp; omega) _ rfl ?_)
          case q1 =>
            have := cell_one_new' (wr.alloc (.cells #[.int .i64 f, .int .u8 b8, .int .i64 x2] 42)) (.int .i64 x2) 3
            simpa using this
          intro g2 cap2 w2 hown2 hgrow2 _ _
          have HL2 : Hid (Below (B + 1) W0 w2) := (HLa.out.alloc (by simp; omega) _).grown hgrow2 (by simp; omega) (fun k hk => (HO.out.lt k hk).1)
          have HO2 : Hid (w2.ownsRow (B + 1) 3 1 (.slice (some ⟨g2, 0, none⟩) (m + 1) cap2) (m + 1) (rowCells (nxTo l f b8 (k + 1)))) := by rw [HST2.out, rowCells_snoc]; exact hown2
          clear hown hown2 hgrow2
          go_wp2
          go_roundw
          case rel => exact ⟨k + 1, m + 1, by go_num, by omega, HO2, by show _ = _; rw [HST2.out, List.length_append, HM.out]; rfl, HL2⟩
          case measure => simp [intOf]; omega
        · have HST2 : Hid (nxTo l f b8 (k + 1) = nxTo l f b8 k) := by show _ = _; rw [HST.out]; simp [Ne.symm h1]
          have hd1 : decide (x1 = b8) = false := decide_eq_false (Ne.symm h1)
          have hd1' : (x1 == b8) = false := by simpa using (Ne.symm h1)
          clear HST
          go_wp2
          go_roundw
          case rel => exact ⟨k + 1, m, by go_num, by omega, by rw [HST2.out]; exact HOa, by show _ = _; rw [HST2.out, HM.out], HLa⟩
          case measure => simp [intOf]; omega
      · have HST2 : Hid (nxTo l f b8 (k + 1) = nxTo l f b8 k) := by show _ = _; rw [HST.out]; simp [Ne.symm h0]
        have hd0 : decide (x0 = f) = false := decide_eq_false (Ne.symm h0)
        have hd0' : (x0 == f) = false := by simpa using (Ne.symm h0)
        clear HST
        go_wp2
        go_roundw
        case rel => exact ⟨k + 1, m, by go_num, by omega, by rw [HST2.out]; exact HOa, by show _ = _; rw [HST2.out, HM.out], HLa⟩
        case measure => simp [intOf]; omega
    · obtain rfl : k = n := by omega
      have HNX : Hid (nxTo l f b8 k = nxTo l f b8 l.length) := by show _ = _; rw [HN.out]
      obtain ⟨a3, cap3, hv3, HR3⟩ := rowOwn_of HO.out HM.out
      have HCAP : Hid (m ≤ cap3) := owns_cap (hv3 ▸ HO.out)
      have HR3' : Hid (RowOwn (B + 1) wr.heap.size wr a3 (nxTo l f b8 k)) := HR3
      have HLW : Hid (Below w.heap.size w wr) := HBW.out.trans (HL.out.mono (by rw [HB.out]; omega))
      subst hv3
      clear HR3
      go_wp2_with fail
      refine (sortInts_any (B + 1) wr.heap.size m cap3 a3 (nxTo l f b8 k) wr HR3'.out HM.out (by omega)).mono ?_
      rintro e w4 ⟨rfl, Z, HZ, HZO, HK4⟩
      have HZN : Hid (Z.length = m) := by show _ = _; rw [HZ.out.1.length_eq]; exact HM.out
      have HL4 : Hid (Below w.heap.size w w4) := HLW.out.trans (HK4.out.to_below HLW.out.size (fun k hk => by rw [← HB.out]; omega))
      have HS4 : Hid (wr.heap.size ≤ w4.heap.size) := HK4.out.size
      go_wp2_with fail
      refine (compactInts_any (B + 1) wr.heap.size m cap3 a3 Z w4 HZO.out HZN.out (by omega) HCAP.out).mono ?_
      rintro e w5 ⟨m5, rfl, HM5, HR5, HK5⟩
      have HNE : Hid (Lib.compact Z = nextE l f b8) := by show _ = _; unfold nextE; rw [← HNX.out]; exact compact_is HZ.out.1 HZ.out.2
      have HL5 : Hid (Below w.heap.size w w5) := HL4.out.trans (HK5.out.to_below HL4.out.size (fun k hk => by rw [← HB.out]; omega))
      have HS5 : Hid (wr.heap.size ≤ w5.heap.size) := Nat.le_trans HS4.out HK5.out.size
      go_wp2
      go_ret
      exact ⟨a3, m5, cap3, rfl, by rw [← HNE.out]; exact HM5, by rw [← HNE.out]; exact HR5.out.wide (by rw [← HB.out]; omega) HS5.out, HL5⟩

set_option maxHeartbeats 4000000 in
set_option maxRecDepth 100000 in
theorem specNext_any (lo hi : Nat) (s : Int) (a : Option Addr) (n cap : Nat) (l : List Ed) (f b8 : Int) (w : World) (ha : EdgesIn lo hi w a l) (hh : hi ≤ w.heap.size) (hn : l.length = n) (hm : n ≤ 1048576) :
    Calls Try.prog 27 #[gv s a n cap, .int .i64 f, .int .u8 b8] w fun e w' => ∃ (a' : Option Addr) (n' cap' : Nat), e = .returned (.slice a' n' cap') ∧ Hid ((nextE l f b8).length = n') ∧ Hid (RowOwn w.heap.size w'.heap.size w' a' (nextE l f b8)) ∧ Hid (Below w.heap.size w w') := by
  have HN : Hid (l.length = n) := hn
  have HA : Hid (EdgesIn lo hi w a l) := ha
  have HH : Hid (hi ≤ w.heap.size) := hh
  obtain ⟨i0, hi0, hz0, hz1, hz2⟩ := info_parts Try.info3
  clear ha hh hn
  obtain ⟨B, HB⟩ : ∃ B, Hid (B = w.heap.size) := ⟨_, rfl⟩
  obtain ⟨W0, HW0⟩ : ∃ W0, Hid (W0 = (w.alloc (.cells #[.int .i64 s, .slice a n cap] 37))) := ⟨_, rfl⟩
  have HK0 : Hid (Blk W0 B 2 (fun i => if i = 0 then .int .i64 s else .slice a n cap)) := by rw [HW0.out]; exact blk_two w B HB.out _ _ _
  have HBW : Hid (Below w.heap.size w W0) := by rw [HW0.out]; exact below1 w _
  have HSW : Hid (W0.heap.size = B + 1) := by rw [HW0.out, HB.out]; show _ = _; simp
  have HAW : Hid (EdgesIn lo hi W0 a l) := HA.out.below HBW.out HH.out
  have HHW : Hid (hi ≤ W0.heap.size) := Nat.le_trans HH.out HBW.out.size
  obtain ⟨c0, c1⟩ := blk_pair_cells HK0.out
  go_enter Try.func27, Try.ntmps27
  go_wp2
  rw [← HB.out, ← HW0.out]
  clear HW0 c0 c1
  go_loopw [8, 7] (fun i v wr => ∃ k m : Nat, i = .int .i64 k ∧ k ≤ n ∧ Hid (wr.ownsRow (B + 1) 3 1 v m (rowCells (nxTo l f b8 k))) ∧ Hid ((nxTo l f b8 k).length = m) ∧ Hid (Below (B + 1) W0 wr)) (fun i _ _ => n - (intOf i).toNat)
  case atStart =>
    refine ⟨0, 0, rfl, by omega, ?_, rfl, ?_⟩
    · show World.ownsRow _ _ _ _ _ _ []
      have := World.ownsRow_made W0 (base := B + 1) (e := 3) (size := 1) #[] 0 (by rw [HSW.out]; exact Nat.le_refl _) (Nat.zero_le _) rfl
      simpa [HSW.out] using this
    · exact (Below.refl _ _).alloc (by rw [HSW.out]; exact Nat.le_refl _) _
  case round =>
    obtain ⟨k, m, rfl, hk, HO, HM, HL⟩ := hrel
    have hmk : m ≤ k := by rw [← HM.out]; exact nxTo_len l f b8 k
    have HKR : Hid (Blk wr B 2 (fun i => if i = 0 then .int .i64 s else .slice a n cap)) := HK0.out.of_block (HL.out.block _ (by omega))
    obtain ⟨c0, c1⟩ := blk_pair_cells HKR.out
    have hszr : B + 1 ≤ wr.heap.size := by have := HL.out.size; have := HSW.out; omega
    by_cases hlt : k < n
    · have hlt1 : (k : Int) < (n : Int) := by omega
      have hlt0 : (0 : Int) ≤ (k : Int) := by omega
      have HBR : Hid (EdgesIn lo hi wr a l) := HAW.out.below HL.out (by have := HHW.out; have := HSW.out; omega)
      obtain ⟨b, o, rfl, _, _, hx⟩ := HBR.out.edge (k := k) (by rw [HN.out]; exact hlt)
      obtain ⟨x, HXX⟩ : ∃ x : Ed, Hid (x = eat l k) := ⟨_, rfl⟩
      rw [← HXX.out] at hx
      have HST : Hid (nxTo l f b8 (k + 1) = nxTo l f b8 k ++ (if (decide (x.1 = f) && decide (x.2.1 = b8)) = true then [x.2.2] else [])) := by show _ = _; rw [nxTo_step (by rw [HN.out]; exact hlt), ← HXX.out]
      obtain ⟨x0, x1, x2⟩ := x
      obtain ⟨p0, p1, p2⟩ := hx
      dsimp only at p0 p1 p2
      have HLa : Hid (Below (B + 1) W0 (wr.alloc (.cells #[.int .i64 x0, .int .u8 x1, .int .i64 x2] 42))) := HL.out.alloc hszr _
      have HOa : Hid ((wr.alloc (.cells #[.int .i64 x0, .int .u8 x1, .int .i64 x2] 42)).ownsRow (B + 1) 3 1 _ m (rowCells (nxTo l f b8 k))) := HO.out.alloc _
      by_cases h0 : f = x0
      · subst h0
        by_cases h1 : b8 = x1
        · subst h1
          have HST2 : Hid (nxTo l f b8 (k + 1) = nxTo l f b8 k ++ [x2]) := by show _ = _; rw [HST.out]; simp
          clear HST
          have hown := HOa.out.alloc (.cells #[.int .i64 x2] 3)
          go_wp2_with (at_builtin; refine wpList_append_lies _ rfl (.tmp 33) (.tmp 36) 39 rfl (B + 1) 3 i0 (.int .i64 0) 1 8 Try.underlying39 hi0 hz0 hz1 hz2 rfl (by decide) _ m (rowCells (nxTo l f b8 k)) rfl hown ⟨wr.heap.size + 1, 0, none⟩ 1 1 [.int .i64 x2] rfl rfl ?q1 (by simp [Value.oneCell']) (by decide) (by unfold maxLen; omega) (by omega) (by simp; omega) _ rfl ?_)
          case q1 =>
            have := cell_one_new' (wr.alloc (.cells #[.int .i64 f, .int .u8 b8, .int .i64 x2] 42)) (.int .i64 x2) 3
            simpa using this
          intro g2 cap2 w2 hown2 hgrow2 _ _
          have HL2 : Hid (Below (B + 1) W0 w2) := (HLa.out.alloc (by simp; omega) _).grown hgrow2 (by simp; omega) (fun k hk => (HO.out.lt k hk).1)
          have HO2 : Hid (w2.ownsRow (B + 1) 3 1 (.slice (some ⟨g2, 0, none⟩) (m + 1) cap2) (m + 1) (rowCells (nxTo l f b8 (k + 1)))) := by rw [HST2.out, rowCells_snoc]; exact hown2
          clear hown hown2 hgrow2
          go_wp2
          go_roundw
          case rel => exact ⟨k + 1, m + 1, by go_num, by omega, HO2, by show _ = _; rw [HST2.out, List.length_append, HM.out]; rfl, HL2⟩
          case measure => simp [intOf]; omega
        · have HST2 : Hid (nxTo l f b8 (k + 1) = nxTo l f b8 k) := by show _ = _; rw [HST.out]; simp [Ne.symm h1]
          have hd1 : decide (x1 = b8) = false := decide_eq_false (Ne.symm h1)
          have hd1' : (x1 == b8) = false := by simpa using (Ne.symm h1)
          clear HST
          go_wp2
          go_roundw
          case rel => exact ⟨k + 1, m, by go_num, by omega, by rw [HST2.out]; exact HOa, by show _ = _; rw [HST2.out, HM.out], HLa⟩
          case measure => simp [intOf]; omega
      · have HST2 : Hid (nxTo l f b8 (k + 1) = nxTo l f b8 k) := by show _ = _; rw [HST.out]; simp [Ne.symm h0]
        have hd0 : decide (x0 = f) = false := decide_eq_false (Ne.symm h0)
        have hd0' : (x0 == f) = false := by simpa using (Ne.symm h0)
        clear HST
        go_wp2
        go_roundw
        case rel => exact ⟨k + 1, m, by go_num, by omega, by rw [HST2.out]; exact HOa, by show _ = _; rw [HST2.out, HM.out], HLa⟩
        case measure => simp [intOf]; omega
    · obtain rfl : k = n := by omega
      have HNX : Hid (nxTo l f b8 k = nxTo l f b8 l.length) := by show _ = _; rw [HN.out]
      obtain ⟨a3, cap3, hv3, HR3⟩ := rowOwn_of HO.out HM.out
      have HCAP : Hid (m ≤ cap3) := owns_cap (hv3 ▸ HO.out)
      have HR3' : Hid (RowOwn (B + 1) wr.heap.size wr a3 (nxTo l f b8 k)) := HR3
      have HLW : Hid (Below w.heap.size w wr) := HBW.out.trans (HL.out.mono (by rw [HB.out]; omega))
      subst hv3
      clear HR3
      go_wp2_with fail
      refine (l04Sorted_any (B + 1) wr.heap.size a3 m cap3 (nxTo l f b8 k) wr HR3'.out.toIn (Nat.le_refl _) HM.out (by omega)).mono ?_
      rintro e w5 ⟨a5, m5, cap5, rfl, HM5, HR5, HB5⟩
      have HNE : Hid (nextL (nxTo l f b8 k) = nextE l f b8) := by show _ = _; unfold nextE; rw [← HNX.out]
      have HL5 : Hid (Below w.heap.size w w5) := HLW.out.trans (HB5.out.mono HLW.out.size)
      go_wp2
      go_ret
      exact ⟨a5, m5, cap5, rfl, by rw [← HNE.out]; exact HM5, by rw [← HNE.out]; exact HR5.out.wide HLW.out.size (Nat.le_refl _), HL5⟩
end Go.Proofs.Ytelikebpddhncaa

/-
  impl.GraphAdd.
-/
namespace Go.Proofs.Ytelikebpddhncaa
open Go.RowKit

set_option maxHeartbeats 4000000 in
set_option maxRecDepth 100000 in
theorem graphAdd_any (lo hi : Nat) (s : Int) (a : Option Addr) (n cap : Nat) (l : List Ed) (x : Ed) (w : World) (ha : EdgesIn lo hi w a l) (hh : hi ≤ w.heap.size) (hn : l.length = n) (hm : n ≤ 1048576) :
    Calls Try.prog 25 #[gv s a n cap, ev x] w fun e w' => ∃ (a' : Option Addr) (n' cap' : Nat) (ok : Bool), e = .returned (.tuple #[gv s a' n' cap', .bool ok]) ∧ Hid (ok = gaddOk s l x) ∧ Hid ((gaddL s l x).length = n') ∧ Hid (EdgesOwn w.heap.size w'.heap.size w' a' (gaddL s l x)) ∧ Hid (Below w.heap.size w w') := by
  have HN : Hid (l.length = n) := hn
  have HA : Hid (EdgesIn lo hi w a l) := ha
  have HH : Hid (hi ≤ w.heap.size) := hh
  obtain ⟨r, HS⟩ : ∃ r : Bool, Hid (r = okG s l) := ⟨_, rfl⟩
  obtain ⟨q, HQ⟩ : ∃ q : Bool, Hid (q = decide (x ∈ l)) := ⟨_, rfl⟩
  obtain ⟨r2, HS2⟩ : ∃ r : Bool, Hid (r = okG s (putE l x)) := ⟨_, rfl⟩
  obtain ⟨i0, hi0, hz0, hz1, hz2⟩ := info_parts Try.info42
  clear ha hh hn
  obtain ⟨B, HB⟩ : ∃ B, Hid (B = w.heap.size) := ⟨_, rfl⟩
  have HCON : Hid (∀ w0, Below w.heap.size w w0 → Calls Try.prog 74 #[.slice a n cap, ev x] w0 fun r w' => r = .returned (.bool q) ∧ Hid (Below w0.heap.size w0 w')) := fun w0 h =>
    containsE_any lo hi a n cap l x q w0 (HA.out.below h HH.out) (Nat.le_trans HH.out h.size) HN.out hm HQ.out
  obtain ⟨PL, HPL⟩ : ∃ PL, Hid (PL = putE l x) := ⟨_, rfl⟩
  have HNEW : Hid (okG s l = true → q = false → ∀ L, L.Perm (l ++ [x]) → (L.Pairwise fun x y => ltE y x = false) → L = PL) := by
    intro h1 h2 L h3 h4
    rw [HPL.out]
    exact putE_new (okG_iff.1 h1).2.2.2 (by have := HQ.out; rw [h2] at this; simpa using this) h3 h4
  have HGA : Hid (gaddOk s l x = (r && r2) ∧ (gaddL s l x = if (r && r2) = true then PL else l) ∧ (r = true → q = true → PL = l)) := by
    refine ⟨by unfold gaddOk; rw [HS.out, HS2.out], by unfold gaddL gaddOk; rw [HS.out, HS2.out, HPL.out], fun h1 h2 => ?_⟩
    rw [HPL.out]
    exact putE_had (okG_iff.1 (HS.out ▸ h1)).2.2.2 (by have := HQ.out; rw [h2] at this; simpa using this.symm)
  have HS2' : Hid (r2 = okG s PL) := by rw [HPL.out]; exact HS2
  have HPLN : Hid (PL.length ≤ n + 1) := by rw [HPL.out, ← HN.out]; exact putE_len l x
  clear HPL HS2
  have HAPP : Hid (ecells (l ++ [x]) = ecells l ++ [.int .i64 x.1, .int .u8 x.2.1, .int .i64 x.2.2]) := ecells_snoc l x
  obtain ⟨x0, x1, x2⟩ := x
  go_enter Try.func25, Try.ntmps25
  go_wp2_with fail
  refine (graphOk_any lo hi s a n cap l r _ (HA.out.below (below3 w _ _ _) HH.out) (by have := HH.out; simp; omega) HN.out hm HS.out).mono ?_
  rintro e w1 ⟨rfl, hb1⟩
  have HG_w1 : Hid (Blk w1 B 2 (fun i => if i = 0 then .int .i64 s else .slice a n cap)) := (((blk_two w B HB.out _ _ _).alloc _).alloc _).of_block (hb1.out.block B (by rw [HB.out]; simp only [World.size_alloc]; omega))
  have HX_w1 : Hid (Blk w1 (B + 1) 3 (fun i => if i = 0 then .int .i64 x0 else if i = 1 then .int .u8 x1 else .int .i64 x2)) := ((blk_three _ (B + 1) (by rw [HB.out]; simp) _ _ _ _).alloc _).of_block (hb1.out.block (B + 1) (by rw [HB.out]; simp only [World.size_alloc]; omega))
  have HR_w1 : Hid (Blk w1 (B + 1 + 1) 2 (fun i => if i = 0 then .int .i64 0 else .slice none 0 0)) := (blk_two _ (B + 1 + 1) (by rw [HB.out]; simp) _ _ _).of_block (hb1.out.block (B + 1 + 1) (by rw [HB.out]; simp only [World.size_alloc]; omega))
  have HL_w1 : Hid (Below w.heap.size w w1) := (below3 w _ _ _).trans (hb1.out.mono (by simp; omega))
  clear hb1
  rw [← HB.out]
  rcases Bool.eq_false_or_eq_true r with hs | hs
  · subst hs
    have hn40 : n ≤ 40 := by have := (okG_size HS.out.symm).2.2; rw [HN.out] at this; exact this
    obtain ⟨c0, c1⟩ := blk_pair_cells HG_w1.out
    obtain ⟨d0, d1, d2⟩ := blk_three_set HX_w1.out
    go_wp2_with fail
    refine (HCON.out _ HL_w1.out).mono ?_
    rintro e w2 ⟨rfl, HB2⟩
    have HG_w2 : Hid (Blk w2 B 2 (fun i => if i = 0 then .int .i64 s else .slice a n cap)) := HG_w1.out.of_block (HB2.out.block _ HG_w1.out.lt)
    have HX_w2 : Hid (Blk w2 (B + 1) 3 (fun i => if i = 0 then .int .i64 x0 else if i = 1 then .int .u8 x1 else .int .i64 x2)) := HX_w1.out.of_block (HB2.out.block _ HX_w1.out.lt)
    have HR_w2 : Hid (Blk w2 (B + 1 + 1) 2 (fun i => if i = 0 then .int .i64 0 else .slice none 0 0)) := HR_w1.out.of_block (HB2.out.block _ HR_w1.out.lt)
    have HL_w2 : Hid (Below w.heap.size w w2) := HL_w1.out.trans (HB2.out.mono HL_w1.out.size)
    clear c0 c1 d0 d1 d2 HB2 HG_w1 HX_w1 HR_w1 HL_w1
    rcases Bool.eq_false_or_eq_true q with hq | hq
    · subst hq
      have HPE : Hid (PL = l) := HGA.out.2.2 (by first | rfl | trivial) (by first | rfl | trivial)
      have HR2T : Hid (r2 = true) := by show _ = _; rw [HS2'.out, HPE.out]; exact HS.out.symm
      have HGO : Hid (true = gaddOk s l (x0, x1, x2)) := by show _ = _; rw [HGA.out.1, HR2T.out]; rfl
      have HGL : Hid (gaddL s l (x0, x1, x2) = l) := by show _ = _; rw [HGA.out.2.1, HPE.out]; simp
      obtain ⟨bc0, bc1⟩ := blk_pair_cells HG_w2.out
      go_wp2_with fail
      refine (newGraph_any lo hi s a n cap l w2 (HA.out.below HL_w2.out HH.out) (Nat.le_trans HH.out HL_w2.out.size) HN.out hm).mono ?_
      rintro e w9 ⟨a9, cap9, rfl, HO9, HB9⟩
      have HR9 : Hid (Blk w9 (B + 1 + 1) 2 (fun i => if i = 0 then .int .i64 0 else .slice none 0 0)) := HR_w2.out.of_block (HB9.out.block _ HR_w2.out.lt)
      have HE9 : Hid (EdgesOwn w2.heap.size w9.heap.size w9 a9 l) := own_in HO9.out HN.out
      have HL9 : Hid (Below w.heap.size w w9) := HL_w2.out.trans (HB9.out.mono HL_w2.out.size)
      obtain ⟨r0, r1⟩ := blk_pair_cells HR9.out
      have rf0 := HR9.out.frozen 0
      have rf1 := HR9.out.frozen 1
      have HLT : Hid (B + 1 + 1 < w2.heap.size) := HR_w2.out.lt
      clear bc0 bc1 HO9
      go_wp2
      refine bodyPost_ret (v := .tuple #[.agg #[.int .i64 s, .slice a9 n cap9], .bool true]) (by simp [results, Try.results25, go_sem, r0, r1]) rfl ?_
      refine ⟨a9, n, cap9, true, rfl, HGO.out, by show _ = _; rw [HGL.out]; exact HN.out, ?_, ?_⟩
      · rw [HGL.out]
        have h := ((HE9.out.setCell (b := B + 1 + 1) (j := 0) HLT.out (.int .i64 s)).setCell (b := B + 1 + 1) (j := 1) HLT.out (.slice a9 n cap9))
        exact h.wide HL_w2.out.size (by simp)
      · exact (HL9.out.setCell (by rw [HB.out]; simp; omega) _).setCell (by rw [HB.out]; simp; omega) _
    · subst hq
      obtain ⟨c0, c1⟩ := blk_pair_cells HG_w2.out
      go_wp2_with fail
      refine (newGraph_any lo hi s a n cap l w2 (HA.out.below HL_w2.out HH.out) (Nat.le_trans HH.out HL_w2.out.size) HN.out hm).mono ?_
      rintro e w3 ⟨a3, cap3, rfl, HO3, HB3⟩
      have HG_w3 : Hid (Blk w3 B 2 (fun i => if i = 0 then .int .i64 s else .slice a n cap)) := HG_w2.out.of_block (HB3.out.block _ HG_w2.out.lt)
      have HX_w3 : Hid (Blk w3 (B + 1) 3 (fun i => if i = 0 then .int .i64 x0 else if i = 1 then .int .u8 x1 else .int .i64 x2)) := HX_w2.out.of_block (HB3.out.block _ HX_w2.out.lt)
      have HR_w3 : Hid (Blk w3 (B + 1 + 1) 2 (fun i => if i = 0 then .int .i64 0 else .slice none 0 0)) := HR_w2.out.of_block (HB3.out.block _ HR_w2.out.lt)
      have HL_w3 : Hid (Below w.heap.size w w3) := HL_w2.out.trans (HB3.out.mono HL_w2.out.size)
      have HLO : Hid (B + 1 + 1 < w2.heap.size) := HR_w2.out.lt
      have HS23 : Hid (w2.heap.size ≤ w3.heap.size) := HB3.out.size
      obtain ⟨M, HM⟩ : ∃ M, Hid (M = w2.heap.size) := ⟨_, rfl⟩
      obtain ⟨P, HP⟩ : ∃ P, Hid (P = w3.heap.size) := ⟨_, rfl⟩
      rw [← HM.out] at HO3
      clear c0 c1 HB3 HG_w2 HX_w2 HR_w2 HL_w2
      obtain ⟨W, HW⟩ : ∃ W, Hid (W = w3.alloc (.cells #[.int .i64 s, .slice a3 n cap3] 37)) := ⟨_, rfl⟩
      have HWB : Hid (Below w3.heap.size w3 W) := by rw [HW.out]; exact below1 _ _
      have HPW : Hid (P < W.heap.size) := by rw [HW.out, HP.out]; show _ < _; simp
      have HMP : Hid (B + 1 + 1 < M ∧ M ≤ P) := ⟨by rw [HM.out]; exact HLO.out, by rw [HM.out, HP.out]; exact HS23.out⟩
      have HG_W : Hid (Blk W B 2 (fun i => if i = 0 then .int .i64 s else .slice a n cap)) := HG_w3.out.of_block (HWB.out.block _ HG_w3.out.lt)
      have HX_W : Hid (Blk W (B + 1) 3 (fun i => if i = 0 then .int .i64 x0 else if i = 1 then .int .u8 x1 else .int .i64 x2)) := HX_w3.out.of_block (HWB.out.block _ HX_w3.out.lt)
      have HR_W : Hid (Blk W (B + 1 + 1) 2 (fun i => if i = 0 then .int .i64 0 else .slice none 0 0)) := HR_w3.out.of_block (HWB.out.block _ HR_w3.out.lt)
      have HT_W : Hid (Blk W P 2 (fun i => if i = 0 then .int .i64 s else .slice a3 n cap3)) := by rw [HW.out]; exact blk_two w3 P HP.out _ _ _
      have HL_W : Hid (Below w.heap.size w W) := HL_w3.out.trans (HWB.out.mono HL_w3.out.size)
      have HO_W : Hid (W.ownsRow M 42 3 (.slice a3 n cap3) n (ecells l)) := owns_upto HO3.out (fun k hk => (HO3.out.lt k hk).2) (fun k _ hk => HWB.out.block k hk)
      have HVP : Hid (∀ k, (Value.slice a3 n cap3).ownBlock = some k → M ≤ k ∧ k < P) := fun k hk => by rw [HP.out]; exact HO3.out.lt k hk
      clear HG_w3 HX_w3 HR_w3 HL_w3 HO3 HWB HLO HS23
      obtain ⟨t0, t1⟩ := blk_pair_cells HT_W.out
      obtain ⟨d0, d1, d2⟩ := blk_three_set HX_W.out
      have hown := HO_W.out.alloc (.cells #[.int .i64 x0, .int .u8 x1, .int .i64 x2] 42)
      have hMW : M ≤ W.heap.size := by have := HMP.out; have := HPW.out; omega
      go_upto_region 6 with fail
      rw [← HP.out, ← HW.out]
      clear HW
      go_wp2_with (at_builtin; refine wpList_append_lies _ rfl (.tmp 21) (.tmp 23) 35 rfl M 42 i0 _ 3 24 Try.underlying35 hi0 hz0 hz1 hz2 rfl (by decide) _ n (ecells l) rfl hown ⟨W.heap.size, 0, none⟩ 1 1 [.int .i64 x0, .int .u8 x1, .int .i64 x2] rfl rfl (news_three W _ _ _ _) (by simp [Value.oneCell']) (by decide) (by unfold maxLen; omega) (by omega) (by simp; omega) _ rfl ?_)
      intro g4 cap4 w4 hown4 hgrow4 hloc4 _
      have HO4 : Hid (w4.ownsRow M 42 3 (.slice (some ⟨g4, 0, none⟩) (n + 1) cap4) (n + 1) (ecells (l ++ [(x0, x1, x2)]))) := by rw [HAPP.out]; exact hown4
      have hb4 : Below M (W.alloc (.cells #[.int .i64 x0, .int .u8 x1, .int .i64 x2] 42)) w4 := (Below.refl _ _).grown hgrow4 (by simp; omega) (fun k hk => (HVP.out k hk).1)
      have HB4 : Hid (Below M W w4) := ((Below.refl _ _).alloc hMW _).trans hb4
      have HT_w4 : Hid (Blk w4 P 2 (fun i => if i = 0 then .int .i64 s else .slice a3 n cap3)) := by
        refine (HT_W.out.alloc (.cells #[.int .i64 x0, .int .u8 x1, .int .i64 x2] 42)).of_block (hgrow4.block P (by have := HPW.out; simp; omega) (fun h => ?_))
        have := HVP.out P h.symm
        omega
      have HG_w4 : Hid (Blk w4 B 2 (fun i => if i = 0 then .int .i64 s else .slice a n cap)) := HG_W.out.of_block (HB4.out.block _ (by have := HMP.out; omega))
      have HR_w4 : Hid (Blk w4 (B + 1 + 1) 2 (fun i => if i = 0 then .int .i64 0 else .slice none 0 0)) := HR_W.out.of_block (HB4.out.block _ (by have := HMP.out; omega))
      have HL_w4 : Hid (Below w.heap.size w w4) := HL_W.out.trans (HB4.out.mono (by have := HMP.out; have := HB.out; omega))
      have HGN : Hid (g4 ≠ P) := by
        show _ ≠ _
        rcases hloc4 with h | h
        · have := HVP.out g4 h; omega
        · have := HPW.out; first | omega | (simp at h; omega)
      have HG4 : Hid (M ≤ g4 ∧ g4 < w4.heap.size) := HO4.out.lt g4 rfl
      obtain ⟨u0, u1⟩ := blk_pair_cells HT_w4.out
      have uf1 := HT_w4.out.frozen 1
      clear t0 t1 d0 d1 d2 hown hown4 hgrow4 hloc4 hb4 HB4 HG_W HX_W HR_W HT_W HL_W HO_W HVP
      obtain ⟨V, HV⟩ : ∃ V, Hid (V = w4.setCell ⟨P, 1, none⟩ (.slice (some ⟨g4, 0, none⟩) (n + 1) cap4)) := ⟨_, rfl⟩
      have HKV : Hid (KeptP (fun c => c = P) w4 V) := by rw [HV.out]; exact (KeptP.refl (fun c => c = P) w4).setCell (g := P) rfl _
      have HT_V : Hid (Blk V P 2 (fun i => if i = 0 then .int .i64 s else .slice (some ⟨g4, 0, none⟩) (n + 1) cap4)) := by
        rw [HV.out]; exact (HT_w4.out.set 1 (by omega) _).congr (fun i hi => by rcases (show i = 0 ∨ i = 1 by omega) with rfl | rfl <;> simp)
      have HE_V : Hid (EdgesOwn g4 (g4 + 1) V (some ⟨g4, 0, none⟩) (l ++ [(x0, x1, x2)])) := by
        refine .inr ⟨g4, rfl, Nat.le_refl _, Nat.lt_succ_self _, ?_⟩
        have h := own_in HO4.out (by rw [List.length_append, HN.out]; rfl)
        rcases h with h | ⟨b, e, _, _, h3⟩
        · simp at h
        · simp only [Option.some.injEq, Addr.mk.injEq] at e
          obtain ⟨rfl, _⟩ := e
          exact HKV.out.blk h3 HGN.out
      have HG_V : Hid (Blk V B 2 (fun i => if i = 0 then .int .i64 s else .slice a n cap)) := HKV.out.blk HG_w4.out (by have := HMP.out; omega)
      have HR_V : Hid (Blk V (B + 1 + 1) 2 (fun i => if i = 0 then .int .i64 0 else .slice none 0 0)) := HKV.out.blk HR_w4.out (by have := HMP.out; omega)
      have HL_V : Hid (Below w.heap.size w V) := HL_w4.out.trans (HKV.out.to_below HL_w4.out.size (fun k hk => by have := HMP.out; have := HB.out; omega))
      have HSV : Hid (g4 < V.heap.size ∧ P < V.heap.size) := ⟨Nat.lt_of_lt_of_le HG4.out.2 HKV.out.size, HT_V.out.lt⟩
      obtain ⟨v0, v1⟩ := blk_pair_cells HT_V.out
      go_upto_region 7 with fail
      rw [← HV.out]
      clear HV u0 u1 uf1 HO4 HT_w4 HG_w4 HR_w4 HL_w4 HKV
      go_wp2_with fail
      refine (sortOwn_any g4 (g4 + 1) (n + 1) cap4 (some ⟨g4, 0, none⟩) (l ++ [(x0, x1, x2)]) V HE_V.out HSV.out.1 (by rw [List.length_append, HN.out]; rfl) (by omega)).mono ?_
      rintro e w5 ⟨rfl, L5, HL5, HE5, HK5⟩
      obtain rfl : L5 = PL := HNEW.out HS.out.symm (by first | rfl | trivial) L5 HL5.out.1 HL5.out.2
      have HN5 : Hid (L5.length = n + 1) := by show _ = _; rw [HL5.out.1.length_eq, List.length_append, HN.out]; rfl
      have HT_w5 : Hid (Blk w5 P 2 (fun i => if i = 0 then .int .i64 s else .slice (some ⟨g4, 0, none⟩) (n + 1) cap4)) := HK5.out.blk HT_V.out (by have := HGN.out; omega)
      have HG_w5 : Hid (Blk w5 B 2 (fun i => if i = 0 then .int .i64 s else .slice a n cap)) := HK5.out.blk HG_V.out (by have := HMP.out; have := HG4.out; omega)
      have HR_w5 : Hid (Blk w5 (B + 1 + 1) 2 (fun i => if i = 0 then .int .i64 0 else .slice none 0 0)) := HK5.out.blk HR_V.out (by have := HMP.out; have := HG4.out; omega)
      have HL_w5 : Hid (Below w.heap.size w w5) := HL_V.out.trans (HK5.out.to_below HL_V.out.size (fun k hk => by have := HMP.out; have := HB.out; have := HG4.out; omega))
      have HS5 : Hid (g4 + 1 ≤ w5.heap.size) := Nat.le_trans HSV.out.1 HK5.out.size
      obtain ⟨z0, z1⟩ := blk_pair_cells HT_w5.out
      clear v0 v1 HL5 HK5 HE_V HG_V HR_V HL_V HT_V HSV
      go_wp2_with fail
      refine (graphOk_any g4 (g4 + 1) s (some ⟨g4, 0, none⟩) (n + 1) cap4 L5 r2 w5 HE5.out.toIn HS5.out HN5.out (by omega) HS2'.out).mono ?_
      rintro e w6 ⟨rfl, HB6⟩
      have HT_w6 : Hid (Blk w6 P 2 (fun i => if i = 0 then .int .i64 s else .slice (some ⟨g4, 0, none⟩) (n + 1) cap4)) := HT_w5.out.of_block (HB6.out.block _ HT_w5.out.lt)
      have HG_w6 : Hid (Blk w6 B 2 (fun i => if i = 0 then .int .i64 s else .slice a n cap)) := HG_w5.out.of_block (HB6.out.block _ HG_w5.out.lt)
      have HR_w6 : Hid (Blk w6 (B + 1 + 1) 2 (fun i => if i = 0 then .int .i64 0 else .slice none 0 0)) := HR_w5.out.of_block (HB6.out.block _ HR_w5.out.lt)
      have HL_w6 : Hid (Below w.heap.size w w6) := HL_w5.out.trans (HB6.out.mono HL_w5.out.size)
      have HE_w6 : Hid (EdgesOwn g4 (g4 + 1) w6 (some ⟨g4, 0, none⟩) L5) := HE5.out.below HB6.out HS5.out
      have HS6 : Hid (g4 + 1 ≤ w6.heap.size) := Nat.le_trans HS5.out HB6.out.size
      clear z0 z1 HB6 HT_w5 HG_w5 HR_w5 HL_w5 HE5 HS5
      rcases Bool.eq_false_or_eq_true r2 with h2 | h2
      · subst h2
        have HGO : Hid (true = gaddOk s l (x0, x1, x2)) := by show _ = _; rw [HGA.out.1]; rfl
        have HGL : Hid (gaddL s l (x0, x1, x2) = L5) := by show _ = _; rw [HGA.out.2.1]; rfl
        obtain ⟨z0, z1⟩ := blk_pair_cells HT_w6.out
        obtain ⟨r0, r1⟩ := blk_pair_cells HR_w6.out
        have rf0 := HR_w6.out.frozen 0
        have rf1 := HR_w6.out.frozen 1
        have hne : B + 1 + 1 ≠ P := by have := HMP.out; omega
        have HLT : Hid (B + 1 + 1 < g4) := by have := HMP.out; have := HG4.out; show _ < _; omega
        go_wp2
        refine bodyPost_ret (v := .tuple #[.agg #[.int .i64 s, .slice (some ⟨g4, 0, none⟩) (n + 1) cap4], .bool true]) (by simp [results, Try.results25, go_sem, r0, r1]) rfl ?_
        refine ⟨some ⟨g4, 0, none⟩, n + 1, cap4, true, rfl, HGO.out, by show _ = _; rw [HGL.out]; exact HN5.out, ?_, ?_⟩
        · rw [HGL.out]
          have h := ((HE_w6.out.setCell (b := B + 1 + 1) (j := 0) HLT.out (.int .i64 s)).setCell (b := B + 1 + 1) (j := 1) HLT.out (.slice (some ⟨g4, 0, none⟩) (n + 1) cap4))
          exact h.wide (by have := HB.out; have := HLT.out; omega) (by simpa using HS6.out)
        · exact (HL_w6.out.setCell (by rw [HB.out]; simp; omega) _).setCell (by rw [HB.out]; simp; omega) _
      · subst h2
        have HGO : Hid (false = gaddOk s l (x0, x1, x2)) := by show _ = _; rw [HGA.out.1]; rfl
        have HGL : Hid (gaddL s l (x0, x1, x2) = l) := by show _ = _; rw [HGA.out.2.1]; rfl
        obtain ⟨bc0, bc1⟩ := blk_pair_cells HG_w6.out
        go_wp2_with fail
        refine (newGraph_any lo hi s a n cap l w6 (HA.out.below HL_w6.out HH.out) (Nat.le_trans HH.out HL_w6.out.size) HN.out hm).mono ?_
        rintro e w9 ⟨a9, cap9, rfl, HO9, HB9⟩
        have HR9 : Hid (Blk w9 (B + 1 + 1) 2 (fun i => if i = 0 then .int .i64 0 else .slice none 0 0)) := HR_w6.out.of_block (HB9.out.block _ HR_w6.out.lt)
        have HE9 : Hid (EdgesOwn w6.heap.size w9.heap.size w9 a9 l) := own_in HO9.out HN.out
        have HL9 : Hid (Below w.heap.size w w9) := HL_w6.out.trans (HB9.out.mono HL_w6.out.size)
        obtain ⟨r0, r1⟩ := blk_pair_cells HR9.out
        have rf0 := HR9.out.frozen 0
        have rf1 := HR9.out.frozen 1
        have HLT : Hid (B + 1 + 1 < w6.heap.size) := HR_w6.out.lt
        clear bc0 bc1 HO9
        go_wp2
        refine bodyPost_ret (v := .tuple #[.agg #[.int .i64 s, .slice a9 n cap9], .bool false]) (by simp [results, Try.results25, go_sem, r0, r1]) rfl ?_
        refine ⟨a9, n, cap9, false, rfl, HGO.out, by show _ = _; rw [HGL.out]; exact HN.out, ?_, ?_⟩
        · rw [HGL.out]
          have h := ((HE9.out.setCell (b := B + 1 + 1) (j := 0) HLT.out (.int .i64 s)).setCell (b := B + 1 + 1) (j := 1) HLT.out (.slice a9 n cap9))
          exact h.wide HL_w6.out.size (by simp)
        · exact (HL9.out.setCell (by rw [HB.out]; simp; omega) _).setCell (by rw [HB.out]; simp; omega) _
  · subst hs
    have HGO : Hid (false = gaddOk s l (x0, x1, x2)) := by show _ = _; rw [HGA.out.1]; rfl
    have HGL : Hid (gaddL s l (x0, x1, x2) = l) := by show _ = _; rw [HGA.out.2.1]; rfl
    obtain ⟨bc0, bc1⟩ := blk_pair_cells HG_w1.out
    go_wp2_with fail
    refine (newGraph_any lo hi s a n cap l w1 (HA.out.below HL_w1.out HH.out) (Nat.le_trans HH.out HL_w1.out.size) HN.out hm).mono ?_
    rintro e w9 ⟨a9, cap9, rfl, HO9, HB9⟩
    have HR9 : Hid (Blk w9 (B + 1 + 1) 2 (fun i => if i = 0 then .int .i64 0 else .slice none 0 0)) := HR_w1.out.of_block (HB9.out.block _ HR_w1.out.lt)
    have HE9 : Hid (EdgesOwn w1.heap.size w9.heap.size w9 a9 l) := own_in HO9.out HN.out
    have HL9 : Hid (Below w.heap.size w w9) := HL_w1.out.trans (HB9.out.mono HL_w1.out.size)
    obtain ⟨r0, r1⟩ := blk_pair_cells HR9.out
    have rf0 := HR9.out.frozen 0
    have rf1 := HR9.out.frozen 1
    have HLT : Hid (B + 1 + 1 < w1.heap.size) := HR_w1.out.lt
    clear bc0 bc1 HO9
    go_wp2
    refine bodyPost_ret (v := .tuple #[.agg #[.int .i64 s, .slice a9 n cap9], .bool false]) (by simp [results, Try.results25, go_sem, r0, r1]) rfl ?_
    refine ⟨a9, n, cap9, false, rfl, HGO.out, by show _ = _; rw [HGL.out]; exact HN.out, ?_, ?_⟩
    · rw [HGL.out]
      have h := ((HE9.out.setCell (b := B + 1 + 1) (j := 0) HLT.out (.int .i64 s)).setCell (b := B + 1 + 1) (j := 1) HLT.out (.slice a9 n cap9))
      exact h.wide HL_w1.out.size (by simp)
    · exact (HL9.out.setCell (by rw [HB.out]; simp; omega) _).setCell (by rw [HB.out]; simp; omega) _
end Go.Proofs.Ytelikebpddhncaa

/-
  What a law keeps at hand while it goes on: what was there, the boxes of its variables, each of so many cells.
-/
namespace Go.Proofs.Ytelikebpddhncaa
open Go.RowKit

/-- what was there is as it was; each box holds its values -/
structure Hold (w wi : World) (bx : List (Nat × List Value)) : Prop where
  bel : Below w.heap.size w wi
  box : ∀ p ∈ bx, Blk wi p.1 p.2.length (fun i => p.2.getD i (.int .i64 0))
theorem Hold.below {w wi wj : World} {bx : List (Nat × List Value)} (h : Hold w wi bx) (hb : Below wi.heap.size wi wj) : Hold w wj bx :=
  ⟨h.bel.trans (hb.mono h.bel.size), fun p hp => (h.box p hp).of_block (hb.block _ (h.box p hp).lt)⟩
theorem Hold.kept {w wi wj : World} {bx : List (Nat × List Value)} {p : Nat → Prop} (h : Hold w wi bx) (hk : KeptP p wi wj) (h1 : ∀ x ∈ bx, ¬ p x.1) (h2 : ∀ k, p k → w.heap.size ≤ k) : Hold w wj bx :=
  ⟨h.bel.trans (hk.to_below h.bel.size h2), fun x hx => hk.blk (h.box x hx) (h1 x hx)⟩
theorem blk_list (w : World) (b : Nat) (hb : b = w.heap.size) (vs : List Value) (T : TypeId) : Blk (w.alloc (.cells vs.toArray T)) b vs.length (fun i => vs.getD i (.int .i64 0)) :=
  hb ▸ blk_new w vs.toArray T _ (fun i hi => by
    have hi' : i < vs.length := by simpa using hi
    simp [List.getD, hi'])
theorem Hold.more {w wi : World} {bx : List (Nat × List Value)} (h : Hold w wi bx) (vs : List Value) (T : TypeId) : Hold w (wi.alloc (.cells vs.toArray T)) ((wi.heap.size, vs) :: bx) :=
  ⟨h.bel.alloc h.bel.size _, fun p hp => by
    rcases List.mem_cons.1 hp with rfl | hp
    · exact blk_list wi _ rfl vs T
    · exact (h.box p hp).alloc _⟩
theorem Hold.cell {w wi : World} {bx : List (Nat × List Value)} (h : Hold w wi bx) {b : Nat} {vs : List Value} {i : Nat} (hm : (b, vs) ∈ bx) (hi : i < vs.length) : wi.cell? ⟨b, i, none⟩ = some (vs.getD i (.int .i64 0)) := (h.box _ hm).cell (i := i) hi
theorem Hold.frozen {w wi : World} {bx : List (Nat × List Value)} (h : Hold w wi bx) {b : Nat} {vs : List Value} (i : Nat) (hm : (b, vs) ∈ bx) : wi.frozen? ⟨b, i, none⟩ = false := (h.box _ hm).frozen i
theorem Hold.lt {w wi : World} {bx : List (Nat × List Value)} (h : Hold w wi bx) {b : Nat} {vs : List Value} (hm : (b, vs) ∈ bx) : b < wi.heap.size := (h.box _ hm).lt
theorem Hold.none (w : World) : Hold w w [] := ⟨Below.refl _ _, fun p hp => by simp at hp⟩
theorem Hold.less {w wi : World} {bx bx' : List (Nat × List Value)} (h : Hold w wi bx) (hs : ∀ p ∈ bx', p ∈ bx) : Hold w wi bx' := ⟨h.bel, fun p hp => h.box p (hs p hp)⟩
theorem Hold.drew {w wi : World} {bx : List (Nat × List Value)} (h : Hold w wi bx) : Hold w wi.drew bx := h.below ((Below.refl _ _).drew)
/-- a store into a box -/
theorem Hold.put {w wi : World} {bx : List (Nat × List Value)} {b j : Nat} {vs : List Value} (h : Hold w wi ((b, vs) :: bx)) (hj : j < vs.length) (v : Value) (hb : w.heap.size ≤ b) (hn : ∀ p ∈ bx, p.1 ≠ b) : Hold w (wi.setCell ⟨b, j, Option.none⟩ v) ((b, vs.set j v) :: bx) :=
  ⟨h.bel.setCell hb v, fun p hp => by
    rcases List.mem_cons.1 hp with rfl | hp
    · have h1 := (h.box (b, vs) (by simp)).set j hj v
      show Blk _ b (vs.set j v).length _
      rw [List.length_set]
      refine h1.congr fun i hi => ?_
      by_cases e : i = j
      · subst e; simp [List.getD, show i < vs.length from hj]
      · simp [List.getD, e, List.getElem?_set_ne (Ne.symm e)]
    · exact (h.box p (List.mem_cons_of_mem _ hp)).of_block (Below.heap_setCell _ _ _ _ (hn p hp))⟩
end Go.Proofs.Ytelikebpddhncaa
