import Derived.Test.YtbepmeipjdpipaaGreatJo05
import Derived.Test.YtbepmeipjdpipaaGreatJo04
namespace Go.Proofs.YtbepmeipjdpipaaGreat
open Go.RowKit
theorem arcs_own {B n e : Nat} {w : World} {v : Value} {l : List Ed} (h : w.ownsRow B e 3 v n (ecells l)) (hn : l.length = n) : ∃ a cap, v = .slice a n cap ∧ EdgesOwn B w.heap.size w a l := by
 rcases h.2 with ⟨rfl, h0⟩ | ⟨g, cap, cur, rfl, hg, hb, _⟩
 ·exact ⟨none, 0, by rw [h0], .inl (List.length_eq_zero_iff.1 (by omega))⟩
 ·refine ⟨_, cap, rfl, .inr ⟨g, rfl, hg, (Array.getElem?_eq_some_iff.1 hb).1, ?_⟩⟩
  unfold EBlk
  rw [hn]
  exact (blk_own h).congr fun i hi => by simp [ecells, List.getD, hn, hi]
set_option maxHeartbeats 4000000 in
set_option maxRecDepth 100000 in
theorem l07Put_any (lo hi : Nat) (a : Option Addr) (n cap : Nat) (l : List Ed) (e : Ed) (w : World) (ha : EdgesIn lo hi w a l) (hh : hi ≤ w.heap.size) (hn : l.length = n) (hm : n ≤ 1048576) :
  Calls Tryz.prog 73 #[.slice a n cap, ev e] w fun r w' => ∃ (a' : Option Addr) (n' cap' : Nat), r = .returned (.slice a' n' cap') ∧ Hid ((putE l e).length = n') ∧ Hid (w'.ownsRow w.heap.size 130 3 (.slice a' n' cap') n' (ecells (putE l e))) ∧ Hid (Below w.heap.size w w') := by
 have HN : Hid (l.length = n) := hn
 have HA : Hid (EdgesIn lo hi w a l) := ha
 have HH : Hid (hi ≤ w.heap.size) := hh
 obtain ⟨i0, hi0, hz0, hz1, hz2⟩ := info_parts Tryz.info130
 clear ha hh hn
 obtain ⟨B, HB⟩ : ∃ B, Hid (B = w.heap.size) := ⟨_, rfl⟩
 obtain ⟨F1, HF1⟩ : ∃ F : Nat → List Ed, Hid (F = fun k => (l.take k).filter (fun x => ltE x e)) := ⟨_, rfl⟩
 obtain ⟨F2, HF2⟩ : ∃ F : Nat → List Ed, Hid (F = fun k => (l.take k).filter (fun x => ltE e x)) := ⟨_, rfl⟩
 have HPUT : Hid (putE l e = F1 n ++ (e :: F2 n)) := by show _ = _; rw [HF1.out, HF2.out, ← HN.out]; simp only [List.take_length]; rfl
 have HL1 : Hid (∀ k, (F1 k).length ≤ k) := by intro k; rw [HF1.out]; exact filter_len l k
 have HL2 : Hid (∀ k, (F2 k).length ≤ k) := by intro k; rw [HF2.out]; exact filter_len l k
 obtain ⟨W0, HW0⟩ : ∃ W0, Hid (W0 = (w.alloc (.cells #[.int .i64 e.1, .int .u8 e.2.1, .int .i64 e.2.2] 130))) := ⟨_, rfl⟩
 have HK0 : Hid (Blk W0 B 3 (fun i => if i = 0 then .int .i64 e.1 else if i = 1 then .int .u8 e.2.1 else .int .i64 e.2.2)) := by rw [HW0.out]; exact blk_three w B HB.out _ _ _ _
 have HBW : Hid (Below w.heap.size w W0) := by rw [HW0.out]; exact below1 w _
 have HSW : Hid (W0.heap.size = B + 1) := by rw [HW0.out, HB.out]; show _ = _; simp
 have HAW : Hid (EdgesIn lo hi W0 a l) := HA.out.below HBW.out HH.out
 have HHW : Hid (hi ≤ W0.heap.size) := Nat.le_trans HH.out HBW.out.size
 have HST1 : Hid (∀ k, k < n → F1 (k + 1) = F1 k ++ (if ltE (eat l k) e = true then [eat l k] else [])) := by intro k hk; rw [HF1.out]; exact filter_step (by rw [HN.out]; exact hk)
 have HST2 : Hid (∀ k, k < n → F2 (k + 1) = F2 k ++ (if ltE e (eat l k) = true then [eat l k] else [])) := by intro k hk; rw [HF2.out]; exact filter_step (p := fun x => ltE e x) (by rw [HN.out]; exact hk)
 have HZ1 : Hid (F1 0 = []) := by rw [HF1.out]; rfl
 have HZ2 : Hid (F2 0 = []) := by rw [HF2.out]; rfl
 clear HF1 HF2
 obtain ⟨e0, e1, e2⟩ := e
 go_enter Tryz.func73, Tryz.ntmps73
 go_wp2
 rw [← HB.out]
 change Hid (W0 = w.alloc (.cells #[.int .i64 e0, .int .u8 e1, .int .i64 e2] 130)) at HW0
 rw [← HW0.out]
 clear HW0
 go_loopw [6, 5] (fun i v wr => ∃ k m : Nat, i = .int .i64 k ∧ k ≤ n ∧ Hid (wr.ownsRow (B + 1) 130 3 v m (ecells (F1 k))) ∧ Hid ((F1 k).length = m) ∧ Hid (Below (B + 1) W0 wr)) (fun i _ _ => n - (intOf i).toNat)
 case atStart =>
  refine ⟨0, 0, rfl, by omega, ?_, by show _ = _; rw [HZ1.out]; rfl, ?_⟩
  ·rw [HZ1.out]
   show World.ownsRow _ _ _ _ _ _ []
   have := World.ownsRow_made W0 (base := B + 1) (e := 130) (size := 3) #[] 0 (by rw [HSW.out]; exact Nat.le_refl _) (Nat.zero_le _) rfl
   simpa [HSW.out] using this
  ·exact (Below.refl _ _).alloc (by rw [HSW.out]; exact Nat.le_refl _) _
 case round =>
  obtain ⟨k, m, rfl, hk, HO, HM, HL⟩ := hrel
  have HKR : Hid (Blk wr B 3 (fun i => if i = 0 then .int .i64 e0 else if i = 1 then .int .u8 e1 else .int .i64 e2)) := HK0.out.of_block (HL.out.block _ (by omega))
  have hmk : m ≤ k := by rw [← HM.out]; exact HL1.out k
  by_cases hlt : k < n
  ·have hlt1 : (k : Int) < (n : Int) := by omega
   have hlt0 : (0 : Int) ≤ (k : Int) := by omega
   have HBR : Hid (EdgesIn lo hi wr a l) := HAW.out.below HL.out (by have := HHW.out; have := HSW.out; omega)
   obtain ⟨b, o, rfl, _, _, hx⟩ := HBR.out.edge (k := k) (by rw [HN.out]; exact hlt)
   obtain ⟨x, HXX⟩ : ∃ x : Ed, Hid (x = eat l k) := ⟨_, rfl⟩
   rw [← HXX.out] at hx
   obtain ⟨q, HQ⟩ : ∃ q : Bool, Hid (q = ltE x (e0, e1, e2)) := ⟨_, rfl⟩
   have HSTEP : Hid (F1 (k + 1) = F1 k ++ (if q = true then [x] else [])) := by show _ = _; rw [HST1.out k hlt, HQ.out, HXX.out]
   obtain ⟨x0, x1, x2⟩ := x
   obtain ⟨p0, p1, p2⟩ := hx
   dsimp only at p0 p1 p2
   obtain ⟨c0, c1, c2⟩ := blk_three_set HKR.out
   have HKS : Hid (∀ w', Below wr.heap.size wr w' → ((w'.cell? ⟨B, 0, none⟩ = some (.int .i64 e0) ∧ w'.cell? ⟨B, 1, none⟩ = some (.int .u8 e1) ∧ w'.cell? ⟨B, 2, none⟩ = some (.int .i64 e2)) ∧ (w'.cell? ⟨b, o + k * 3, none⟩ = some (.int .i64 x0) ∧ w'.cell? ⟨b, o + k * 3 + 1, none⟩ = some (.int .u8 x1) ∧ w'.cell? ⟨b, o + k * 3 + 2, none⟩ = some (.int .i64 x2)))) := fun w' h => ⟨⟨cell_below c0 h (lt_of_cell c0), cell_below c1 h (lt_of_cell c1), cell_below c2 h (lt_of_cell c2)⟩, ⟨cell_below p0 h (lt_of_cell p0), cell_below p1 h (lt_of_cell p1), cell_below p2 h (lt_of_cell p2)⟩⟩
   have HC : Hid (∀ w0, Below wr.heap.size wr w0 → Calls Tryz.prog 74 #[ev (x0, x1, x2), ev (e0, e1, e2)] w0 fun e w' => e = .returned (.bool q) ∧ Hid (Below wr.heap.size wr w') ∧ ((w'.cell? ⟨B, 0, none⟩ = some (.int .i64 e0) ∧ w'.cell? ⟨B, 1, none⟩ = some (.int .u8 e1) ∧ w'.cell? ⟨B, 2, none⟩ = some (.int .i64 e2)) ∧ (w'.cell? ⟨b, o + k * 3, none⟩ = some (.int .i64 x0) ∧ w'.cell? ⟨b, o + k * 3 + 1, none⟩ = some (.int .u8 x1) ∧ w'.cell? ⟨b, o + k * 3 + 2, none⟩ = some (.int .i64 x2)))) := fun w0 h =>
    (specLess_arc _ _ q w0 HQ.out).mono fun _ _ ⟨h1, h2⟩ => have hk := h.trans (h2.out.mono h.size); ⟨h1, hk, HKS.out _ hk⟩
   go_wp2_with fail
   go_region_held3 (fun w' => (w'.cell? ⟨B, 0, none⟩ = some (.int .i64 e0) ∧ w'.cell? ⟨B, 1, none⟩ = some (.int .u8 e1) ∧ w'.cell? ⟨B, 2, none⟩ = some (.int .i64 e2)) ∧ (w'.cell? ⟨b, o + k * 3, none⟩ = some (.int .i64 x0) ∧ w'.cell? ⟨b, o + k * 3 + 1, none⟩ = some (.int .u8 x1) ∧ w'.cell? ⟨b, o + k * 3 + 2, none⟩ = some (.int .i64 x2))) (first | exact ⟨⟨c0, c1, c2⟩, ⟨p0, p1, p2⟩⟩ | exact hk1) (first | (go_at_call 74; refine (HC.out _ ((Below.refl _ _).drew)).mono ?_; rintro e w1 ⟨rfl, HB1, hk1⟩))
   have hszr : B + 1 ≤ wr.heap.size := by have := HL.out.size; have := HSW.out; omega
   have HL1x : Hid (Below (B + 1) W0 w1) := HL.out.trans (HB1.out.mono hszr)
   have HO1x : Hid (w1.ownsRow (B + 1) 130 3 _ m (ecells (F1 k))) := owns_upto HO.out (fun k hk => (HO.out.lt k hk).2) (fun k _ hk => HB1.out.block k hk)
   have hsz1 : B + 1 ≤ w1.heap.size := Nat.le_trans hszr HB1.out.size
   obtain ⟨⟨_, _, _⟩, d0, d1, d2⟩ := hk1
   clear p0 p1 p2 c0 c1 c2 HKS HC
   rcases Bool.eq_false_or_eq_true q with hq | hq
   ·subst hq
    obtain ⟨LL, HLL⟩ : ∃ LL, Hid (LL = F1 k) := ⟨_, rfl⟩
    rw [← HLL.out] at HO1x
    have hown := HO1x.out.alloc (.cells #[.int .i64 x0, .int .u8 x1, .int .i64 x2] 130)
    go_wp2_with (at_builtin; refine wpList_append_lies _ rfl (.tmp 21) (.tmp 26) 77 rfl (B + 1) 130 i0 _ 3 24 Tryz.underlying77 hi0 hz0 hz1 hz2 rfl (by decide) _ m (ecells LL) rfl hown ⟨w1.heap.size, 0, none⟩ 1 1 [.int .i64 x0, .int .u8 x1, .int .i64 x2] rfl rfl (news_three w1 _ _ _ _) (by simp [Value.oneCell']) (by decide) (by unfold maxLen; omega) (by omega) (by simp; omega) _ rfl ?_)
    intro g2 cap2 w2 hown2 hgrow2 _ _
    have HL2x : Hid (Below (B + 1) W0 w2) := (HL1x.out.alloc hsz1 _).grown hgrow2 (by simp; omega) (fun k hk => (HO1x.out.lt k hk).1)
    go_wp2
    go_roundw
    case rel =>
     have e9 : F1 (k + 1) = LL ++ [(x0, x1, x2)] := by rw [HLL.out, HSTEP.out]; simp
     refine ⟨k + 1, m + 1, by go_num, by omega, ?_, ?_, HL2x⟩
     ·rw [e9, ecells_snoc]; exact hown2
     ·show _ = _; rw [e9, List.length_append, HLL.out, HM.out]; rfl
    case measure => simp [intOf]; omega
   ·subst hq
    go_wp2
    go_roundw
    case rel =>
     have e9 : F1 (k + 1) = (F1 k) := by rw [HSTEP.out]; simp
     refine ⟨k + 1, m, by go_num, by omega, ?_, ?_, HL1x⟩
     ·rw [e9]; exact HO1x.out
     ·show _ = _; rw [e9, HM.out]
    case measure => simp [intOf]; omega
  ·obtain rfl : k = n := by omega
   obtain ⟨p0, p1, p2⟩ := blk_three_set HKR.out
   have hown := HO.out.alloc (.cells #[.int .i64 e0, .int .u8 e1, .int .i64 e2] 130)
   have hsz : B + 1 ≤ wr.heap.size := by have := HL.out.size; have := HSW.out; omega
   go_wp2_with (at_builtin; refine wpList_append_lies _ rfl (.tmp 28) (.tmp 30) 77 rfl (B + 1) 130 i0 _ 3 24 Tryz.underlying77 hi0 hz0 hz1 hz2 rfl (by decide) _ m (ecells (F1 k)) rfl hown ⟨wr.heap.size, 0, none⟩ 1 1 [.int .i64 e0, .int .u8 e1, .int .i64 e2] rfl rfl (news_three wr _ _ _ _) (by simp [Value.oneCell']) (by decide) (by unfold maxLen; omega) (by omega) (by simp; omega) _ rfl ?_)
   intro g1 cap1 w1 hown1 hgrow1 _ _
   have HO1 : Hid (w1.ownsRow (B + 1) 130 3 (.slice (some ⟨g1, 0, none⟩) (m + 1) cap1) (m + 1) (ecells (F1 k ++ [(e0, e1, e2)]))) := by rw [ecells_snoc]; exact hown1
   have HL1' : Hid (Below (B + 1) W0 w1) := (HL.out.alloc hsz _).grown hgrow1 (by simp; omega) (fun k hk => (HO.out.lt k hk).1)
   clear hown hown1 hgrow1 p0 p1 p2 HO HL
   go_wp2
   go_loopw [7, 5] (fun i v wq => ∃ k2 m2 : Nat, i = .int .i64 k2 ∧ k2 ≤ k ∧ Hid (wq.ownsRow (B + 1) 130 3 v m2 (ecells ((F1 k ++ [(e0, e1, e2)]) ++ F2 k2))) ∧ Hid (((F1 k ++ [(e0, e1, e2)]) ++ F2 k2).length = m2) ∧ Hid (Below (B + 1) W0 wq)) (fun i _ _ => k - (intOf i).toNat)
   case atStart =>
    refine ⟨0, m + 1, rfl, by omega, ?_, by show _ = _; rw [HZ2.out, List.append_nil, List.length_append, HM.out]; rfl, HL1'⟩
    rw [HZ2.out, List.append_nil]; exact HO1.out
   case round =>
    obtain ⟨k2, m2, rfl, hk2, HO, HM2, HL⟩ := hrel
    have HKR : Hid (Blk wr B 3 (fun i => if i = 0 then .int .i64 e0 else if i = 1 then .int .u8 e1 else .int .i64 e2)) := HK0.out.of_block (HL.out.block _ (by omega))
    have hm2 : m2 ≤ m + 1 + k2 := by rw [← HM2.out, List.length_append, List.length_append, HM.out]; have := HL2.out k2; simp; omega
    by_cases hlt : k2 < k
    ·have hlt1 : (k2 : Int) < (k : Int) := by omega
     have hlt0 : (0 : Int) ≤ (k2 : Int) := by omega
     have HBR : Hid (EdgesIn lo hi wr a l) := HAW.out.below HL.out (by have := HHW.out; have := HSW.out; omega)
     obtain ⟨b, o, rfl, _, _, hx⟩ := HBR.out.edge (k := k2) (by rw [HN.out]; exact hlt)
     obtain ⟨x, HXX⟩ : ∃ x : Ed, Hid (x = eat l k2) := ⟨_, rfl⟩
     rw [← HXX.out] at hx
     obtain ⟨q, HQ⟩ : ∃ q : Bool, Hid (q = ltE (e0, e1, e2) x) := ⟨_, rfl⟩
     have HSTEP : Hid (F2 (k2 + 1) = F2 k2 ++ (if q = true then [x] else [])) := by show _ = _; rw [HST2.out k2 hlt, HQ.out, HXX.out]
     obtain ⟨x0, x1, x2⟩ := x
     obtain ⟨p0, p1, p2⟩ := hx
     dsimp only at p0 p1 p2
     obtain ⟨c0, c1, c2⟩ := blk_three_set HKR.out
     have HKS : Hid (∀ w', Below wr.heap.size wr w' → ((w'.cell? ⟨B, 0, none⟩ = some (.int .i64 e0) ∧ w'.cell? ⟨B, 1, none⟩ = some (.int .u8 e1) ∧ w'.cell? ⟨B, 2, none⟩ = some (.int .i64 e2)) ∧ (w'.cell? ⟨b, o + k2 * 3, none⟩ = some (.int .i64 x0) ∧ w'.cell? ⟨b, o + k2 * 3 + 1, none⟩ = some (.int .u8 x1) ∧ w'.cell? ⟨b, o + k2 * 3 + 2, none⟩ = some (.int .i64 x2)))) := fun w' h => ⟨⟨cell_below c0 h (lt_of_cell c0), cell_below c1 h (lt_of_cell c1), cell_below c2 h (lt_of_cell c2)⟩, ⟨cell_below p0 h (lt_of_cell p0), cell_below p1 h (lt_of_cell p1), cell_below p2 h (lt_of_cell p2)⟩⟩
     have HC : Hid (∀ w0, Below wr.heap.size wr w0 → Calls Tryz.prog 74 #[ev (e0, e1, e2), ev (x0, x1, x2)] w0 fun e w' => e = .returned (.bool q) ∧ Hid (Below wr.heap.size wr w') ∧ ((w'.cell? ⟨B, 0, none⟩ = some (.int .i64 e0) ∧ w'.cell? ⟨B, 1, none⟩ = some (.int .u8 e1) ∧ w'.cell? ⟨B, 2, none⟩ = some (.int .i64 e2)) ∧ (w'.cell? ⟨b, o + k2 * 3, none⟩ = some (.int .i64 x0) ∧ w'.cell? ⟨b, o + k2 * 3 + 1, none⟩ = some (.int .u8 x1) ∧ w'.cell? ⟨b, o + k2 * 3 + 2, none⟩ = some (.int .i64 x2)))) := fun w0 h =>
      (specLess_arc _ _ q w0 HQ.out).mono fun _ _ ⟨h1, h2⟩ => have hk := h.trans (h2.out.mono h.size); ⟨h1, hk, HKS.out _ hk⟩
     go_wp2_with fail
     go_region_held3 (fun w' => (w'.cell? ⟨B, 0, none⟩ = some (.int .i64 e0) ∧ w'.cell? ⟨B, 1, none⟩ = some (.int .u8 e1) ∧ w'.cell? ⟨B, 2, none⟩ = some (.int .i64 e2)) ∧ (w'.cell? ⟨b, o + k2 * 3, none⟩ = some (.int .i64 x0) ∧ w'.cell? ⟨b, o + k2 * 3 + 1, none⟩ = some (.int .u8 x1) ∧ w'.cell? ⟨b, o + k2 * 3 + 2, none⟩ = some (.int .i64 x2))) (first | exact ⟨⟨c0, c1, c2⟩, ⟨p0, p1, p2⟩⟩ | exact hk1) (first | (go_at_call 74; refine (HC.out _ ((Below.refl _ _).drew)).mono ?_; rintro e w1 ⟨rfl, HB1, hk1⟩))
     have hszr : B + 1 ≤ wr.heap.size := by have := HL.out.size; have := HSW.out; omega
     have HL1x : Hid (Below (B + 1) W0 w1) := HL.out.trans (HB1.out.mono hszr)
     have HO1x : Hid (w1.ownsRow (B + 1) 130 3 _ m2 (ecells ((F1 k ++ [(e0, e1, e2)]) ++ F2 k2))) := owns_upto HO.out (fun k hk => (HO.out.lt k hk).2) (fun k _ hk => HB1.out.block k hk)
     have hsz1 : B + 1 ≤ w1.heap.size := Nat.le_trans hszr HB1.out.size
     obtain ⟨⟨_, _, _⟩, d0, d1, d2⟩ := hk1
     clear p0 p1 p2 c0 c1 c2 HKS HC
     rcases Bool.eq_false_or_eq_true q with hq | hq
     ·subst hq
      obtain ⟨LL, HLL⟩ : ∃ LL, Hid (LL = (F1 k ++ [(e0, e1, e2)]) ++ F2 k2) := ⟨_, rfl⟩
      rw [← HLL.out] at HO1x
      have hown := HO1x.out.alloc (.cells #[.int .i64 x0, .int .u8 x1, .int .i64 x2] 130)
      go_wp2_with (at_builtin; refine wpList_append_lies _ rfl (.tmp 44) (.tmp 49) 77 rfl (B + 1) 130 i0 _ 3 24 Tryz.underlying77 hi0 hz0 hz1 hz2 rfl (by decide) _ m2 (ecells LL) rfl hown ⟨w1.heap.size, 0, none⟩ 1 1 [.int .i64 x0, .int .u8 x1, .int .i64 x2] rfl rfl (news_three w1 _ _ _ _) (by simp [Value.oneCell']) (by decide) (by unfold maxLen; omega) (by omega) (by simp; omega) _ rfl ?_)
      intro g2 cap2 w2 hown2 hgrow2 _ _
      have HL2x : Hid (Below (B + 1) W0 w2) := (HL1x.out.alloc hsz1 _).grown hgrow2 (by simp; omega) (fun k hk => (HO1x.out.lt k hk).1)
      go_wp2
      go_roundw
      case rel =>
       have e9 : (F1 k ++ [(e0, e1, e2)]) ++ F2 (k2 + 1) = LL ++ [(x0, x1, x2)] := by rw [HLL.out, HSTEP.out]; simp
       refine ⟨k2 + 1, m2 + 1, by go_num, by omega, ?_, ?_, HL2x⟩
       ·rw [e9, ecells_snoc]; exact hown2
       ·show _ = _; rw [e9, List.length_append, HLL.out, HM2.out]; rfl
      case measure => simp [intOf]; omega
     ·subst hq
      go_wp2
      go_roundw
      case rel =>
       have e9 : (F1 k ++ [(e0, e1, e2)]) ++ F2 (k2 + 1) = ((F1 k ++ [(e0, e1, e2)]) ++ F2 k2) := by rw [HSTEP.out]; simp
       refine ⟨k2 + 1, m2, by go_num, by omega, ?_, ?_, HL1x⟩
       ·rw [e9]; exact HO1x.out
       ·show _ = _; rw [e9, HM2.out]
      case measure => simp [intOf]; omega
    ·obtain rfl : k2 = k := by omega
     have HFIN := HO.out
     rw [List.append_assoc, List.singleton_append, ← HPUT.out] at HFIN
     have HFL : Hid ((putE l (e0, e1, e2)).length = m2) := by have h := HM2.out; rw [List.append_assoc, List.singleton_append, ← HPUT.out] at h; exact h
     obtain ⟨a9, cap9, hv9, _⟩ := arcs_own HFIN HFL.out
     subst hv9
     have HFX : Hid (wr.ownsRow (B + 1) 130 3 (.slice a9 m2 cap9) m2 (ecells (putE l (e0, e1, e2)))) := HFIN
     clear HFIN
     go_wp2
     go_ret
     exact ⟨a9, m2, cap9, rfl, HFL, owns_low HFX.out (by rw [HB.out]; omega), HBW.out.trans (HL.out.mono (by rw [HB.out]; omega))⟩
end Go.Proofs.YtbepmeipjdpipaaGreat

namespace Go.Proofs.YtbepmeipjdpipaaGreat
open Go.RowKit
def lbAt (lb : List Int) (t : Int) : Int := lb.getD (t.toNat - 1) 0
def joinR (lb : List Int) (f : Int) (ts : List Int) (ar : List Ed) : List Ed := ts.foldl (fun a t => putE a (f, lbAt lb t, t)) ar
def joinF (lb : List Int) (fs ts : List Int) (ar : List Ed) : List Ed := fs.foldl (fun a f => joinR lb f ts a) ar
theorem mem_joinR {lb : List Int} {f : Int} {ts : List Int} : ∀ {ar : List Ed} {x : Ed}, x ∈ joinR lb f ts ar ↔ x ∈ ar ∨ ∃ t, t ∈ ts ∧ x = (f, lbAt lb t, t) := by
 induction ts with
 | nil => intro ar x; simp [joinR]
 | cons t ts ih =>
  intro ar x
  show x ∈ joinR lb f ts (putE ar (f, lbAt lb t, t)) ↔ _
  rw [ih, mem_putE]
  constructor
  ·rintro ((h | h) | ⟨u, hu, h⟩)
   ·exact .inr ⟨t, List.mem_cons_self .., h⟩
   ·exact .inl h
   ·exact .inr ⟨u, List.mem_cons_of_mem _ hu, h⟩
  ·rintro (h | ⟨u, hu, h⟩)
   ·exact .inl (.inr h)
   ·rcases List.mem_cons.1 hu with rfl | hu
    ·exact .inl (.inl h)
    ·exact .inr ⟨u, hu, h⟩
theorem mem_joinF {lb : List Int} {fs ts : List Int} : ∀ {ar : List Ed} {x : Ed}, x ∈ joinF lb fs ts ar ↔ x ∈ ar ∨ ∃ f t, f ∈ fs ∧ t ∈ ts ∧ x = (f, lbAt lb t, t) := by
 induction fs with
 | nil => intro ar x; simp [joinF]
 | cons f fs ih =>
  intro ar x
  show x ∈ joinF lb fs ts (joinR lb f ts ar) ↔ _
  rw [ih, mem_joinR]
  constructor
  ·rintro ((h | ⟨t, ht, h⟩) | ⟨g, t, hg, ht, h⟩)
   ·exact .inl h
   ·exact .inr ⟨f, t, List.mem_cons_self .., ht, h⟩
   ·exact .inr ⟨g, t, List.mem_cons_of_mem _ hg, ht, h⟩
  ·rintro (h | ⟨g, t, hg, ht, h⟩)
   ·exact .inl (.inl h)
   ·rcases List.mem_cons.1 hg with rfl | hg
    ·exact .inl (.inr ⟨t, ht, h⟩)
    ·exact .inr ⟨g, t, hg, ht, h⟩
theorem srt_joinR {lb : List Int} {f : Int} {ts : List Int} : ∀ {ar : List Ed}, SrtE ar → SrtE (joinR lb f ts ar) := by
 induction ts with
 | nil => intro ar h; exact h
 | cons t ts ih => intro ar h; exact ih (srt_putE h _)
theorem srt_joinF {lb : List Int} {fs ts : List Int} : ∀ {ar : List Ed}, SrtE ar → SrtE (joinF lb fs ts ar) := by
 induction fs with
 | nil => intro ar h; exact h
 | cons f fs ih => intro ar h; exact ih (srt_joinR h)
structure MkS where
 lb : List Int
 ar : List Ed
 bad : Bool
structure Lk where
 fi : List Int
 la : List Int
 nl : Bool
def stepK (op : Int) (s : MkS) (o y : Lk) : MkS × Lk :=
 if op = 2 then ({ s with ar := joinF s.lb o.la y.fi s.ar }, ⟨if o.nl = true then o.fi ++ y.fi else o.fi, if y.nl = true then o.la ++ y.la else y.la, o.nl && y.nl⟩)
 else if op = 3 then (s, ⟨o.fi ++ y.fi, o.la ++ y.la, o.nl || y.nl⟩)
 else (if op = 6 then s else { s with ar := joinF s.lb y.la y.fi s.ar }, ⟨y.fi, y.la, y.nl || !decide (op = 5)⟩)
def kidsK (lk : Nat → MkS → MkS × Lk) (op : Int) : List Int → MkS → Lk → MkS × Lk
 | [], s, o => (s, o)
 | z :: zs, s, o => if s.bad = true then (s, o) else
  kidsK lk op zs (stepK op (lk z.toNat s).1 o (lk z.toNat s).2).1 (stepK op (lk z.toNat s).1 o (lk z.toNat s).2).2
def lookK (ps : List Pc) : Nat → Nat → MkS → MkS × Lk
 | 0, _, s => (s, ⟨[], [], false⟩)
 | n + 1, z, s => if (pat ps z).1 = 1 then
   ({ s with lb := s.lb ++ [(pat ps z).2.1], bad := s.bad || decide (24 ≤ s.lb.length + 1) }, ⟨[((s.lb.length + 1 : Nat) : Int)], [((s.lb.length + 1 : Nat) : Int)], false⟩)
  else kidsK (lookK ps n) (pat ps z).1 (pat ps z).2.2 s ⟨[], [], decide ((pat ps z).1 = 2)⟩
structure MkOk (s : MkS) : Prop where
 len : s.lb.length ≤ 24
 bad : s.bad = decide (24 ≤ s.lb.length)
 lbl : ∀ x, x ∈ s.lb → 97 ≤ x ∧ x ≤ 100
 srt : SrtE s.ar
 arc : ∀ x, x ∈ s.ar → ∃ f t : Nat, 1 ≤ f ∧ f ≤ s.lb.length ∧ 1 ≤ t ∧ t ≤ s.lb.length ∧ x = ((f : Int), s.lb.getD (t - 1) 0, (t : Int))
def Sts (lo hi : Nat) (l : List Int) : Prop := l.length ≤ hi - lo ∧ ∀ x, x ∈ l → ∃ t : Nat, lo < t ∧ t ≤ hi ∧ x = (t : Int)
theorem Sts.nil (lo hi : Nat) : Sts lo hi [] := ⟨Nat.zero_le _, fun x h => by cases h⟩
theorem Sts.wide {lo hi lo' hi' : Nat} {l : List Int} (h : Sts lo hi l) (h1 : lo' ≤ lo) (h2 : hi ≤ hi') : Sts lo' hi' l :=
 ⟨by have := h.1; omega, fun x hx => by obtain ⟨t, a, b, c⟩ := h.2 x hx; exact ⟨t, by omega, by omega, c⟩⟩
theorem Sts.app {lo mid hi : Nat} {l l' : List Int} (h : Sts lo mid l) (h' : Sts mid hi l') (h1 : lo ≤ mid) (h2 : mid ≤ hi) : Sts lo hi (l ++ l') := by
 refine ⟨by rw [List.length_append]; have := h.1; have := h'.1; omega, fun x hx => ?_⟩
 rcases List.mem_append.1 hx with hx | hx
 ·exact (h.wide (Nat.le_refl _) h2).2 x hx
 ·exact (h'.wide h1 (Nat.le_refl _)).2 x hx
def Grew (s s' : MkS) : Prop := s.lb.length ≤ s'.lb.length ∧ ∀ i, i < s.lb.length → s'.lb.getD i 0 = s.lb.getD i 0
theorem Grew.refl (s : MkS) : Grew s s := ⟨Nat.le_refl _, fun _ _ => rfl⟩
theorem Grew.trans {a b c : MkS} (h : Grew a b) (k : Grew b c) : Grew a c := ⟨Nat.le_trans h.1 k.1, fun i hi => by rw [k.2 i (Nat.lt_of_lt_of_le hi h.1), h.2 i hi]⟩
theorem MkOk.join {s : MkS} (h : MkOk s) {fs ts : List Int} {lo hi : Nat} (hf : ∀ x, x ∈ fs → ∃ t : Nat, 1 ≤ t ∧ t ≤ s.lb.length ∧ x = (t : Int)) (ht : Sts lo hi ts) (hh : hi ≤ s.lb.length) : MkOk { s with ar := joinF s.lb fs ts s.ar } := by
 refine ⟨h.len, h.bad, h.lbl, srt_joinF h.srt, fun x hx => ?_⟩
 rcases mem_joinF.1 hx with hx | ⟨f, t, hf1, ht1, rfl⟩
 ·exact h.arc x hx
 ·obtain ⟨a, a1, a2, rfl⟩ := hf f hf1
  obtain ⟨b, b1, b2, rfl⟩ := ht.2 t ht1
  exact ⟨a, b, a1, a2, by omega, Nat.le_trans b2 hh, by unfold lbAt; simp⟩
def cntL (c : Nat → Nat) : List Int → Nat
 | [] => 0
 | z :: zs => c z.toNat + cntL c zs
def cntK (ps : List Pc) : Nat → Nat → Nat
 | 0, _ => 0
 | n + 1, z => if (pat ps z).1 = 1 then 1 else cntL (cntK ps n) (pat ps z).2.2
structure LkOk (s : MkS) (c : Nat) (r : MkS × Lk) : Prop where
 ok : MkOk r.1
 grew : Grew s r.1
 fi : Sts s.lb.length r.1.lb.length r.2.fi
 la : Sts s.lb.length r.1.lb.length r.2.la
 len : r.1.lb.length = min 24 (s.lb.length + c)
theorem Sts.pos {lo hi : Nat} {l : List Int} (h : Sts lo hi l) : ∀ x, x ∈ l → ∃ t : Nat, 1 ≤ t ∧ t ≤ hi ∧ x = (t : Int) := fun x hx => by
 obtain ⟨t, a, b, c⟩ := h.2 x hx
 exact ⟨t, by omega, b, c⟩
theorem stepK_ok {op : Int} {s s1 : MkS} {o y : Lk} {lo c : Nat} (hs : lo ≤ s.lb.length) (hf : Sts lo s.lb.length o.fi) (hl : Sts lo s.lb.length o.la) (h : LkOk s c (s1, y)) :
  MkOk (stepK op s1 o y).1 ∧ (stepK op s1 o y).1.lb = s1.lb ∧ Sts lo s1.lb.length (stepK op s1 o y).2.fi ∧ Sts lo s1.lb.length (stepK op s1 o y).2.la := by
 have hg := h.grew.1
 have h1 := h.ok
 have h2 := h.fi
 have h3 := h.la
 dsimp only at hg h1 h2 h3
 unfold stepK
 by_cases e2 : op = 2
 ·rw [if_pos e2]
  refine ⟨h1.join (hl.wide (Nat.le_refl _) hg).pos h2 (Nat.le_refl _), rfl, ?_, ?_⟩
  ·dsimp only
   split
   ·exact hf.app h2 hs hg
   ·exact hf.wide (Nat.le_refl _) hg
  ·dsimp only
   split
   ·exact hl.app h3 hs hg
   ·exact h3.wide hs (Nat.le_refl _)
 ·rw [if_neg e2]
  by_cases e3 : op = 3
  ·rw [if_pos e3]
   exact ⟨h1, rfl, hf.app h2 hs hg, hl.app h3 hs hg⟩
  ·rw [if_neg e3]
   dsimp only
   refine ⟨?_, ?_, h2.wide hs (Nat.le_refl _), h3.wide hs (Nat.le_refl _)⟩
   ·split
    ·exact h1
    ·exact h1.join h3.pos h2 (Nat.le_refl _)
   ·split <;> rfl
theorem kidsK_ok {lk : Nat → MkS → MkS × Lk} {ct : Nat → Nat} {op : Int} : ∀ {zs : List Int} {s : MkS} {o : Lk} {lo : Nat}, (∀ z, z ∈ zs → ∀ s, MkOk s → s.bad = false → LkOk s (ct z.toNat) (lk z.toNat s)) → MkOk s → lo ≤ s.lb.length → Sts lo s.lb.length o.fi → Sts lo s.lb.length o.la →
  MkOk (kidsK lk op zs s o).1 ∧ Grew s (kidsK lk op zs s o).1 ∧ Sts lo (kidsK lk op zs s o).1.lb.length (kidsK lk op zs s o).2.fi ∧ Sts lo (kidsK lk op zs s o).1.lb.length (kidsK lk op zs s o).2.la ∧ (kidsK lk op zs s o).1.lb.length = min 24 (s.lb.length + cntL ct zs)
 | [], s, o, lo, _, hs, hlo, hf, hl => ⟨hs, Grew.refl s, hf, hl, by show s.lb.length = min 24 (s.lb.length + 0); have := hs.len; omega⟩
 | z :: zs, s, o, lo, hk, hs, hlo, hf, hl => by
  unfold kidsK
  by_cases hb : s.bad = true
  ·rw [if_pos hb]
   have h24 : 24 ≤ s.lb.length := by have := hs.bad; rw [hb] at this; exact of_decide_eq_true this.symm
   exact ⟨hs, Grew.refl s, hf, hl, by show s.lb.length = _; have := hs.len; omega⟩
  ·rw [if_neg hb]
   have h0 := hk z (List.mem_cons_self ..) s hs (by simpa using hb)
   obtain ⟨g1, g2, g3, g4⟩ := stepK_ok (op := op) hlo hf hl h0
   have hle := h0.grew.1
   have hlen := h0.len
   have ih := kidsK_ok (lk := lk) (ct := ct) (op := op) (zs := zs) (lo := lo) (fun z hz => hk z (List.mem_cons_of_mem _ hz)) g1 (by rw [g2]; omega) (by rw [g2]; exact g3) (by rw [g2]; exact g4)
   obtain ⟨i1, i2, i3, i4, i5⟩ := ih
   refine ⟨i1, Grew.trans ⟨by rw [g2]; exact hle, fun i hi => by rw [g2]; exact h0.grew.2 i hi⟩ i2, i3, i4, ?_⟩
   rw [i5, g2, hlen]
   show _ = min 24 (s.lb.length + (ct z.toNat + cntL ct zs))
   omega
theorem lookK_ok (ps : List Pc) (hok : ∀ i, i < ps.length → formOk (pat ps i) = true ∧ kidsOk i (pat ps i).2.2 = true) : ∀ (n z : Nat), z < n → z < ps.length → ∀ s, MkOk s → s.bad = false → LkOk s (cntK ps n z) (lookK ps n z s) := by
 intro n
 induction n with
 | zero => intro z h; omega
 | succ n ih =>
  intro z hz hzl s hs hb
  have hlt : s.lb.length < 24 := by have := hs.bad; rw [hb] at this; have := of_decide_eq_false this.symm; omega
  unfold lookK cntK
  by_cases e : (pat ps z).1 = 1
  ·rw [if_pos e, if_pos e]
   have hlab : 97 ≤ (pat ps z).2.1 ∧ (pat ps z).2.1 ≤ 100 := by
    have h1 := (hok z hzl).1
    unfold formOk at h1
    rw [if_pos e] at h1
    simp only [Bool.and_eq_true] at h1
    exact isL_yes h1.1
   have hle : (s.lb ++ [(pat ps z).2.1]).length = s.lb.length + 1 := by simp
   have hget : ∀ i, i < s.lb.length → (s.lb ++ [(pat ps z).2.1]).getD i 0 = s.lb.getD i 0 := fun i hi => by simp [List.getD, List.getElem?_append_left hi]
   have hst : Sts s.lb.length (s.lb.length + 1) [((s.lb.length + 1 : Nat) : Int)] := ⟨by simp, fun x hx => ⟨s.lb.length + 1, by omega, by omega, by simpa using hx⟩⟩
   refine ⟨⟨by dsimp only; omega, by dsimp only; rw [hb, hle]; rfl, fun x hx => ?_, hs.srt, fun x hx => ?_⟩, ⟨by dsimp only; omega, hget⟩, by dsimp only; rw [hle]; exact hst, by dsimp only; rw [hle]; exact hst, by dsimp only; rw [hle]; omega⟩
   ·rcases List.mem_append.1 hx with h | h
    ·exact hs.lbl x h
    ·have : x = (pat ps z).2.1 := by simpa using h
     rw [this]; exact hlab
   ·obtain ⟨f, t, a1, a2, a3, a4, a5⟩ := hs.arc x hx
    dsimp only
    exact ⟨f, t, a1, by omega, a3, by omega, by rw [hget _ (by omega)]; exact a5⟩
  ·rw [if_neg e, if_neg e]
   have hk : ∀ k, k ∈ (pat ps z).2.2 → ∀ s, MkOk s → s.bad = false → LkOk s (cntK ps n k.toNat) (lookK ps n k.toNat s) := fun k hk s h1 h2 => by
    have h3 := List.all_eq_true.1 (hok z hzl).2 k hk
    simp only [Bool.and_eq_true, decide_eq_true_eq] at h3
    exact ih k.toNat (by omega) (by omega) s h1 h2
   obtain ⟨i1, i2, i3, i4, i5⟩ := kidsK_ok (op := (pat ps z).1) (o := ⟨[], [], decide ((pat ps z).1 = 2)⟩) hk hs (Nat.le_refl _) (Sts.nil _ _) (Sts.nil _ _)
   exact ⟨i1, i2, i3, i4, i5⟩
end Go.Proofs.YtbepmeipjdpipaaGreat

namespace Go.Proofs.YtbepmeipjdpipaaGreat
open Go.RowKit
structure SeS where
 lb : List Int
 bh : Nat → Nat → Bool
structure SeK where
 fi : Nat → Bool
 la : Nat → Bool
 nl : Bool
def orB (f g : Nat → Bool) : Nat → Bool := fun i => f i || g i
def followB (bh : Nat → Nat → Bool) (la fi : Nat → Bool) : Nat → Nat → Bool := fun a b => bh a b || (la a && fi b)
def stepB (op : Int) (t : SeS) (c y : SeK) : SeS × SeK :=
 if op = 2 then ({ t with bh := followB t.bh c.la y.fi }, ⟨if c.nl = true then orB c.fi y.fi else c.fi, if y.nl = true then orB y.la c.la else y.la, c.nl && y.nl⟩)
 else if op = 3 then (t, ⟨orB c.fi y.fi, orB c.la y.la, c.nl || y.nl⟩)
 else (if op = 6 then t else { t with bh := followB t.bh y.la y.fi }, ⟨y.fi, y.la, y.nl || !decide (op = 5)⟩)
def kidsB (sk : Nat → SeS → SeS × SeK) (op : Int) : List Int → SeS → SeK → SeS × SeK
 | [], t, c => (t, c)
 | z :: zs, t, c => kidsB sk op zs (stepB op (sk z.toNat t).1 c (sk z.toNat t).2).1 (stepB op (sk z.toNat t).1 c (sk z.toNat t).2).2
def oneB (n : Nat) : Nat → Bool := fun i => decide (i = n)
def noneB : Nat → Bool := fun _ => false
def seatB (ps : List Pc) : Nat → Nat → SeS → SeS × SeK
 | 0, _, t => (t, ⟨noneB, noneB, false⟩)
 | n + 1, z, t => if (pat ps z).1 = 1 then ({ t with lb := t.lb ++ [(pat ps z).2.1] }, ⟨oneB (t.lb.length + 1), oneB (t.lb.length + 1), false⟩)
  else kidsB (seatB ps n) (pat ps z).1 (pat ps z).2.2 t ⟨noneB, noneB, decide ((pat ps z).1 = 2)⟩
def TieS (s : MkS) (t : SeS) : Prop := t.lb = s.lb ∧ ∀ a b : Nat, t.bh a b = true ↔ ∃ l, ((a : Int), l, (b : Int)) ∈ s.ar
def TieR (f : Nat → Bool) (l : List Int) : Prop := ∀ i : Nat, f i = true ↔ (i : Int) ∈ l
def TieK (o : Lk) (c : SeK) : Prop := TieR c.fi o.fi ∧ TieR c.la o.la ∧ c.nl = o.nl
theorem TieR.or {f g : Nat → Bool} {l k : List Int} (h : TieR f l) (h' : TieR g k) : TieR (orB f g) (l ++ k) := fun i => by
 unfold orB
 rw [Bool.or_eq_true, h i, h' i, List.mem_append]
theorem TieR.or' {f g : Nat → Bool} {l k : List Int} (h : TieR f l) (h' : TieR g k) : TieR (orB g f) (l ++ k) := fun i => by
 unfold orB
 rw [Bool.or_eq_true, h i, h' i, List.mem_append]
 exact Or.comm
theorem TieR.no : TieR noneB [] := fun i => by simp [noneB]
theorem tie_join {s : MkS} {t : SeS} {la fi : Nat → Bool} {fs ts : List Int} (h : TieS s t) (hf : TieR la fs) (ht : TieR fi ts) : TieS { s with ar := joinF s.lb fs ts s.ar } { t with bh := followB t.bh la fi } := by
 refine ⟨h.1, fun a b => ?_⟩
 show (t.bh a b || (la a && fi b)) = true ↔ _
 rw [Bool.or_eq_true, Bool.and_eq_true, h.2 a b, hf a, ht b]
 constructor
 ·rintro (⟨l, hl⟩ | ⟨h1, h2⟩)
  ·exact ⟨l, mem_joinF.2 (.inl hl)⟩
  ·exact ⟨lbAt s.lb b, mem_joinF.2 (.inr ⟨a, b, h1, h2, rfl⟩)⟩
 ·rintro ⟨l, hl⟩
  rcases mem_joinF.1 hl with hl | ⟨f, u, h1, h2, e⟩
  ·exact .inl ⟨l, hl⟩
  ·simp only [Prod.mk.injEq] at e
   obtain ⟨rfl, _, rfl⟩ := e
   exact .inr ⟨h1, h2⟩
theorem tie_step {op : Int} {s : MkS} {t : SeS} {o y : Lk} {c d : SeK} (h : TieS s t) (hc : TieK o c) (hd : TieK y d) : TieS (stepK op s o y).1 (stepB op t c d).1 ∧ TieK (stepK op s o y).2 (stepB op t c d).2 := by
 obtain ⟨c1, c2, c3⟩ := hc
 obtain ⟨d1, d2, d3⟩ := hd
 unfold stepK stepB
 by_cases e2 : op = 2
 ·rw [if_pos e2, if_pos e2]
  refine ⟨tie_join h c2 d1, ?_, ?_, ?_⟩
  ·dsimp only
   rw [c3]
   split
   ·exact c1.or d1
   ·exact c1
  ·dsimp only
   rw [d3]
   split
   ·exact c2.or' d2
   ·exact d2
  ·dsimp only
   rw [c3, d3]
 ·rw [if_neg e2, if_neg e2]
  by_cases e3 : op = 3
  ·rw [if_pos e3, if_pos e3]
   exact ⟨h, c1.or d1, c2.or d2, by dsimp only; rw [c3, d3]⟩
  ·rw [if_neg e3, if_neg e3]
   refine ⟨?_, d1, d2, by dsimp only; rw [d3]⟩
   by_cases e6 : op = 6
   ·rw [if_pos e6, if_pos e6]; exact h
   ·rw [if_neg e6, if_neg e6]; exact tie_join h d2 d1
theorem tie_kids {lk : Nat → MkS → MkS × Lk} {sk : Nat → SeS → SeS × SeK} {ct : Nat → Nat} {op : Int} : ∀ {zs : List Int} {s : MkS} {t : SeS} {o : Lk} {c : SeK} {lo : Nat},
  (∀ z, z ∈ zs → ∀ s, MkOk s → s.bad = false → LkOk s (ct z.toNat) (lk z.toNat s)) →
  (∀ z, z ∈ zs → ∀ s t, MkOk s → s.bad = false → s.lb.length + ct z.toNat < 24 → TieS s t → TieS (lk z.toNat s).1 (sk z.toNat t).1 ∧ TieK (lk z.toNat s).2 (sk z.toNat t).2) →
  MkOk s → lo ≤ s.lb.length → Sts lo s.lb.length o.fi → Sts lo s.lb.length o.la → s.lb.length + cntL ct zs < 24 → TieS s t → TieK o c →
  TieS (kidsK lk op zs s o).1 (kidsB sk op zs t c).1 ∧ TieK (kidsK lk op zs s o).2 (kidsB sk op zs t c).2
 | [], s, t, o, c, lo, _, _, _, _, _, _, _, h1, h2 => ⟨h1, h2⟩
 | z :: zs, s, t, o, c, lo, hk, ht, hs, hlo, hf, hl, hn, h1, h2 => by
  have hn' : s.lb.length + (ct z.toNat + cntL ct zs) < 24 := hn
  have hb : s.bad = false := by rw [hs.bad]; exact decide_eq_false (by omega)
  have h0 := hk z (List.mem_cons_self ..) s hs hb
  obtain ⟨t1, t2⟩ := ht z (List.mem_cons_self ..) s t hs hb (by omega) h1
  obtain ⟨g1, g2, g3, g4⟩ := stepK_ok (op := op) hlo hf hl h0
  obtain ⟨u1, u2⟩ := tie_step (op := op) t1 h2 t2
  have hlen := h0.len
  unfold kidsK kidsB
  rw [if_neg (by rw [hb]; simp)]
  exact tie_kids (lo := lo) (fun z hz => hk z (List.mem_cons_of_mem _ hz)) (fun z hz => ht z (List.mem_cons_of_mem _ hz)) g1 (by rw [g2]; omega) (by rw [g2]; exact g3) (by rw [g2]; exact g4) (by rw [g2]; omega) u1 u2
theorem tie_look (ps : List Pc) (hok : ∀ i, i < ps.length → formOk (pat ps i) = true ∧ kidsOk i (pat ps i).2.2 = true) : ∀ (n z : Nat), z < n → z < ps.length → ∀ s t, MkOk s → s.bad = false → s.lb.length + cntK ps n z < 24 → TieS s t → TieS (lookK ps n z s).1 (seatB ps n z t).1 ∧ TieK (lookK ps n z s).2 (seatB ps n z t).2 := by
 intro n
 induction n with
 | zero => intro z h; omega
 | succ n ih =>
  intro z hz hzl s t hs hb hc ht
  unfold lookK seatB
  unfold cntK at hc
  by_cases e : (pat ps z).1 = 1
  ·rw [if_pos e, if_pos e]
   rw [ht.1]
   refine ⟨⟨rfl, ht.2⟩, ?_, ?_, rfl⟩
   all_goals
    intro i
    simp only [oneB, decide_eq_true_eq, List.mem_singleton]
    omega
  ·rw [if_neg e, if_neg e]
   rw [if_neg e] at hc
   have hlt : ∀ k, k ∈ (pat ps z).2.2 → k.toNat < n ∧ k.toNat < ps.length := fun k hk => by
    have h3 := List.all_eq_true.1 (hok z hzl).2 k hk
    simp only [Bool.and_eq_true, decide_eq_true_eq] at h3
    omega
   exact tie_kids (ct := cntK ps n) (lo := s.lb.length) (fun k hk s h1 h2 => lookK_ok ps hok n k.toNat (hlt k hk).1 (hlt k hk).2 s h1 h2) (fun k hk s t h1 h2 h3 h4 => ih k.toNat (hlt k hk).1 (hlt k hk).2 s t h1 h2 h3 h4) hs (Nat.le_refl _) (Sts.nil _ _) (Sts.nil _ _) hc ht ⟨TieR.no, TieR.no, rfl⟩
end Go.Proofs.YtbepmeipjdpipaaGreat

namespace Go.Proofs.YtbepmeipjdpipaaGreat
open Go.RowKit
theorem okTo_all {l : List Pc} : ∀ {n : Nat}, okToP l n = true → ∀ i, i < n → formOk (pat l i) = true ∧ kidsOk i (pat l i).2.2 = true
 | 0, _, i, h => by omega
 | n + 1, ho, i, h => by
  unfold okToP at ho
  rw [Bool.and_eq_true, Bool.and_eq_true] at ho
  by_cases e : i < n
  ·exact okTo_all ho.1 i e
  ·obtain rfl : i = n := by omega
   exact ho.2
theorem okP_all {l : List Pc} (h : okP l = true) : 1 ≤ l.length ∧ l.length ≤ 60 ∧ ∀ i, i < l.length → formOk (pat l i) = true ∧ kidsOk i (pat l i).2.2 = true := by
 unfold okP at h
 simp only [Bool.and_eq_true, decide_eq_true_eq] at h
 exact ⟨h.1.1, h.1.2, okTo_all h.2⟩
theorem nodup_ltN : ∀ (n : Nat) (l : List Nat), l.Nodup → (∀ x, x ∈ l → x < n) → l.length ≤ n
 | 0, l, _, h => by
  cases l with
  | nil => exact Nat.le_refl _
  | cons x l => exact absurd (h x (List.mem_cons_self ..)) (by omega)
 | n + 1, l, hn, h => by
  by_cases hm : n ∈ l
  ·have h1 := nodup_ltN n (l.erase n) (hn.erase n) (fun x hx => by
    have h2 := (List.Nodup.mem_erase_iff hn).1 hx
    have h3 := h x h2.2
    have h4 := h2.1
    omega)
   have h2 := List.length_erase_of_mem hm
   omega
  ·have h1 := nodup_ltN n l hn (fun x hx => by
    have h3 := h x hx
    by_cases e : x = n
    ·subst e; exact absurd hx hm
    ·omega)
   omega
def nfS (ps : List Pc) : MkS × Lk := lookK ps ps.length (ps.length - 1) ⟨[], [], false⟩
def nfT (ps : List Pc) : SeS × SeK := seatB ps ps.length (ps.length - 1) ⟨[], fun _ _ => false⟩
def nfN (ps : List Pc) : Nat := cntK ps ps.length (ps.length - 1)
def nfG (ps : List Pc) : Bool := okP ps && decide (nfN ps < 24)
def nfA (ps : List Pc) : List Ed := joinF (nfS ps).1.lb [0] (nfS ps).2.fi (nfS ps).1.ar
def nfF (ps : List Pc) : Nat → Bool := fun i => if i = 0 then (nfS ps).2.nl else decide ((i : Int) ∈ (nfS ps).2.la)
def nfE (ps : List Pc) : List Bool := (List.range ((nfS ps).1.lb.length + 1)).map (nfF ps)
theorem nfE_len (ps : List Pc) : (nfE ps).length = (nfS ps).1.lb.length + 1 := by simp [nfE]
theorem mkOk0 : MkOk ⟨[], [], false⟩ := ⟨by simp, rfl, fun x h => by simp at h, List.Pairwise.nil, fun x h => by simp at h⟩
theorem nfS_ok {ps : List Pc} (h : okP ps = true) : LkOk ⟨[], [], false⟩ (nfN ps) (nfS ps) := by
 obtain ⟨h1, h2, h3⟩ := okP_all h
 exact lookK_ok ps h3 ps.length (ps.length - 1) (by omega) (by omega) _ mkOk0 rfl
theorem nfS_len {ps : List Pc} (h : okP ps = true) : (nfS ps).1.lb.length = min 24 (nfN ps) := by
 have h1 := (nfS_ok h).len
 simpa using h1
theorem nfS_bad {ps : List Pc} (h : okP ps = true) : (nfS ps).1.bad = !decide (nfN ps < 24) := by
 rw [(nfS_ok h).ok.bad, nfS_len h]
 by_cases e : nfN ps < 24
 ·rw [decide_eq_false (by omega), decide_eq_true e]; rfl
 ·rw [decide_eq_true (by omega), decide_eq_false e]; rfl
theorem nfA_srt {ps : List Pc} (h : okP ps = true) : SrtE (nfA ps) := srt_joinF (nfS_ok h).ok.srt
theorem nfA_mem {ps : List Pc} (h : okP ps = true) {x : Ed} : x ∈ nfA ps ↔ (∃ f t : Nat, f ≤ (nfS ps).1.lb.length ∧ 1 ≤ t ∧ t ≤ (nfS ps).1.lb.length ∧ x = ((f : Int), (nfS ps).1.lb.getD (t - 1) 0, (t : Int)) ∧ (if f = 0 then (t : Int) ∈ (nfS ps).2.fi else x ∈ (nfS ps).1.ar)) := by
 have hk := nfS_ok h
 unfold nfA
 rw [mem_joinF]
 constructor
 ·rintro (hx | ⟨f, t, hf, ht, rfl⟩)
  ·obtain ⟨f, t, a1, a2, a3, a4, e⟩ := hk.ok.arc x hx
   exact ⟨f, t, a2, a3, a4, e, by rw [if_neg (by omega)]; exact hx⟩
  ·obtain ⟨u, b1, b2, rfl⟩ := hk.fi.2 t ht
   have hf0 : f = 0 := by simpa using hf
   subst hf0
   exact ⟨0, u, Nat.zero_le _, by omega, b2, by unfold lbAt; simp, by rw [if_pos rfl]; exact ht⟩
 ·rintro ⟨f, t, a1, a2, a3, rfl, hx⟩
  by_cases e : f = 0
  ·subst e
   rw [if_pos rfl] at hx
   exact .inr ⟨0, (t : Int), by simp, hx, by unfold lbAt; simp⟩
  ·rw [if_neg e] at hx
   exact .inl hx
theorem nfS_lab {ps : List Pc} (h : okP ps = true) {t : Nat} (h1 : 1 ≤ t) (h2 : t ≤ (nfS ps).1.lb.length) : 97 ≤ (nfS ps).1.lb.getD (t - 1) 0 ∧ (nfS ps).1.lb.getD (t - 1) 0 ≤ 100 := by
 refine (nfS_ok h).ok.lbl _ ?_
 rw [List.getD, List.getElem?_eq_getElem (by omega)]
 exact List.getElem_mem _
theorem nfA_okE {ps : List Pc} (h : okP ps = true) {x : Ed} (hx : x ∈ nfA ps) : okE (((nfS ps).1.lb.length + 1 : Nat) : Int) x = true := by
 obtain ⟨f, t, a1, a2, a3, rfl, _⟩ := (nfA_mem h).1 hx
 have hl := nfS_lab h a2 a3
 unfold okE inV
 simp only [Bool.and_eq_true, decide_eq_true_eq]
 omega
theorem srt_at {l : List Ed} (h : SrtE l) {i : Nat} (h0 : i ≠ 0) (hi : i < l.length) : ltE (eat l (i - 1)) (eat l i) = true := by
 have h1 := List.pairwise_iff_getElem.1 h (i - 1) i (by omega) hi (by omega)
 simpa [eat, List.getD, hi, show i - 1 < l.length by omega] using h1
theorem okGTo_srt {s : Int} {l : List Ed} (hs : SrtE l) (h : ∀ x ∈ l, okE s x = true) : okGTo s l l.length = true :=
 okGTo_all fun k hk => by
  have hm : eat l k ∈ l := by rw [eat, List.getD, List.getElem?_eq_getElem hk]; exact List.getElem_mem _
  by_cases e : k = 0
  ·subst e; exact okGAt_zero (h _ hm)
  ·rw [okGAt_pos (h _ hm) e]; exact srt_at hs e hk
theorem nfA_ok {ps : List Pc} (h : okP ps = true) (hn : nfN ps < 24) : okN (((nfS ps).1.lb.length + 1 : Nat) : Int) (nfA ps) ((nfS ps).1.lb.length + 1) = true := by
 have hl := nfS_len h
 unfold okN
 rw [okGTo_srt (nfA_srt h) (fun x hx => nfA_okE h hx)]
 simp only [Bool.and_eq_true, decide_eq_true_eq, and_true]
 omega
theorem nfA_few {ps : List Pc} (h : okP ps = true) (hn : nfN ps < 24) : (nfA ps).length ≤ 576 := by
 have hl := nfS_len h
 have h1 : ((nfA ps).map fun x => x.1.toNat * 24 + x.2.2.toNat).Nodup := by
  refine List.pairwise_map.2 ((nfA_srt h).nodup.imp_of_mem fun {x y} hx hy hne => ?_)
  obtain ⟨f, t, a1, a2, a3, rfl, _⟩ := (nfA_mem h).1 hx
  obtain ⟨g, u, b1, b2, b3, rfl, _⟩ := (nfA_mem h).1 hy
  intro e
  simp only [Int.toNat_natCast] at e
  obtain ⟨rfl, rfl⟩ : f = g ∧ t = u := by omega
  exact hne rfl
 have h2 := nodup_ltN 576 _ h1 (fun k hk => by
  obtain ⟨x, hx, rfl⟩ := List.mem_map.1 hk
  obtain ⟨f, t, a1, a2, a3, rfl, _⟩ := (nfA_mem h).1 hx
  simp only [Int.toNat_natCast]
  omega)
 rwa [List.length_map] at h2
theorem nfT_tie {ps : List Pc} (h : okP ps = true) (hn : nfN ps < 24) : TieS (nfS ps).1 (nfT ps).1 ∧ TieK (nfS ps).2 (nfT ps).2 := by
 obtain ⟨h1, h2, h3⟩ := okP_all h
 exact tie_look ps h3 ps.length (ps.length - 1) (by omega) (by omega) _ _ mkOk0 rfl (by simpa [nfN] using hn) ⟨rfl, fun a b => by simp⟩
def arcRow (lb : List Int) (bh : Nat → Nat → Bool) (a : Nat) (n : Nat) : List Ed := ((List.range n).filter (bh a)).map fun b => ((a : Int), lb.getD b 0, (b : Int))
def arcTo (lb : List Int) (bh : Nat → Nat → Bool) (m : Nat) : List Ed := (List.range m).flatMap fun a => arcRow lb bh a 24
theorem arcRow_zero (lb : List Int) (bh : Nat → Nat → Bool) (a : Nat) : arcRow lb bh a 0 = [] := rfl
theorem arcRow_succ (lb : List Int) (bh : Nat → Nat → Bool) (a n : Nat) : arcRow lb bh a (n + 1) = arcRow lb bh a n ++ (if bh a n = true then [((a : Int), lb.getD n 0, (n : Int))] else []) := by
 unfold arcRow
 rw [List.range_succ, List.filter_append, List.map_append]
 by_cases e : bh a n = true <;> simp [e]
theorem arcTo_succ (lb : List Int) (bh : Nat → Nat → Bool) (m : Nat) : arcTo lb bh (m + 1) = arcTo lb bh m ++ arcRow lb bh m 24 := by
 unfold arcTo
 rw [List.range_succ, List.flatMap_append]
 simp
theorem arcRow_len (lb : List Int) (bh : Nat → Nat → Bool) (a n : Nat) : (arcRow lb bh a n).length ≤ n := by
 unfold arcRow
 rw [List.length_map]
 exact Nat.le_trans (List.length_filter_le _ _) (by simp)
theorem arcTo_len (lb : List Int) (bh : Nat → Nat → Bool) : ∀ m, (arcTo lb bh m).length ≤ m * 24
 | 0 => by simp [arcTo]
 | m + 1 => by
  rw [arcTo_succ, List.length_append]
  have h1 := arcTo_len lb bh m
  have h2 := arcRow_len lb bh m 24
  omega
theorem mem_arcRow {lb : List Int} {bh : Nat → Nat → Bool} {a n : Nat} {x : Ed} : x ∈ arcRow lb bh a n ↔ ∃ b, b < n ∧ bh a b = true ∧ x = ((a : Int), lb.getD b 0, (b : Int)) := by
 unfold arcRow
 rw [List.mem_map]
 constructor
 ·rintro ⟨b, hb, rfl⟩
  have h := List.mem_filter.1 hb
  exact ⟨b, List.mem_range.1 h.1, h.2, rfl⟩
 ·rintro ⟨b, h1, h2, rfl⟩
  exact ⟨b, List.mem_filter.2 ⟨List.mem_range.2 h1, h2⟩, rfl⟩
theorem mem_arcTo {lb : List Int} {bh : Nat → Nat → Bool} {m : Nat} {x : Ed} : x ∈ arcTo lb bh m ↔ ∃ a b, a < m ∧ b < 24 ∧ bh a b = true ∧ x = ((a : Int), lb.getD b 0, (b : Int)) := by
 unfold arcTo
 rw [List.mem_flatMap]
 constructor
 ·rintro ⟨a, ha, hx⟩
  obtain ⟨b, h1, h2, rfl⟩ := mem_arcRow.1 hx
  exact ⟨a, b, List.mem_range.1 ha, h1, h2, rfl⟩
 ·rintro ⟨a, b, h1, h2, h3, rfl⟩
  exact ⟨a, List.mem_range.2 h1, mem_arcRow.2 ⟨b, h2, h3, rfl⟩⟩
theorem nodup_arcRow (lb : List Int) (bh : Nat → Nat → Bool) (a : Nat) : ∀ n, (arcRow lb bh a n).Nodup
 | 0 => List.Pairwise.nil
 | n + 1 => by
  rw [arcRow_succ]
  refine List.nodup_append.2 ⟨nodup_arcRow lb bh a n, by split <;> simp, fun x hx y hy e => ?_⟩
  subst e
  obtain ⟨b, h1, _, rfl⟩ := mem_arcRow.1 hx
  split at hy
  ·simp at hy; omega
  ·simp at hy
theorem nodup_arcTo (lb : List Int) (bh : Nat → Nat → Bool) : ∀ m, (arcTo lb bh m).Nodup
 | 0 => List.Pairwise.nil
 | m + 1 => by
  rw [arcTo_succ]
  refine List.nodup_append.2 ⟨nodup_arcTo lb bh m, nodup_arcRow lb bh m 24, fun x hx y hy e => ?_⟩
  subst e
  obtain ⟨a, b, h1, _, _, rfl⟩ := mem_arcTo.1 hx
  obtain ⟨c, _, _, h4⟩ := mem_arcRow.1 hy
  simp at h4
  omega
def nfB (ps : List Pc) : Nat → Nat → Bool := fun a b => if a = 0 then (nfT ps).2.fi b else (nfT ps).1.bh a b
theorem arcs_are {ps : List Pc} (h : okP ps = true) (hn : nfN ps < 24) {L : List Ed} (hp : L.Perm (arcTo (0 :: (nfT ps).1.lb) (nfB ps) 24)) (hs : L.Pairwise fun x y => ltE y x = false) : L = nfA ps := by
 obtain ⟨h1, h2⟩ := nfT_tie h hn
 have hl := nfS_len h
 refine srtE_ext (srtE_of (hp.nodup_iff.2 (nodup_arcTo _ _ _)) hs) (nfA_srt h) fun x => ?_
 rw [hp.mem_iff, mem_arcTo, nfA_mem h, h1.1]
 have hget : ∀ t : Nat, 1 ≤ t → (0 :: (nfS ps).1.lb).getD t 0 = (nfS ps).1.lb.getD (t - 1) 0 := fun t ht => by
  obtain ⟨u, rfl⟩ : ∃ u, t = u + 1 := ⟨t - 1, by omega⟩
  simp [List.getD]
 constructor
 ·rintro ⟨a, b, ha, hb, hB, rfl⟩
  unfold nfB at hB
  by_cases e : a = 0
  ·subst e
   rw [if_pos rfl] at hB
   have hf := (h2.1 b).1 hB
   obtain ⟨t, t1, t2, t3⟩ := (nfS_ok h).fi.2 _ hf
   have hbt : b = t := by omega
   subst hbt
   refine ⟨0, b, Nat.zero_le _, by omega, t2, ?_, by rw [if_pos rfl]; exact hf⟩
   rw [hget b (by omega)]
  ·rw [if_neg e] at hB
   obtain ⟨l, hm⟩ := (h1.2 a b).1 hB
   obtain ⟨f, t, a1, a2, a3, a4, e2⟩ := (nfS_ok h).ok.arc _ hm
   simp only [Prod.mk.injEq] at e2
   obtain ⟨e3, e4, e5⟩ := e2
   obtain rfl : a = f := by omega
   obtain rfl : b = t := by omega
   refine ⟨a, b, a2, a3, a4, ?_, ?_⟩
   ·rw [hget b a3]
   ·rw [if_neg e, hget b a3, ← e4]; exact hm
 ·rintro ⟨f, t, a1, a2, a3, rfl, hx⟩
  refine ⟨f, t, by omega, by omega, ?_, by rw [hget t a2]⟩
  unfold nfB
  by_cases e : f = 0
  ·rw [if_pos e] at hx ⊢
   exact (h2.1 t).2 hx
  ·rw [if_neg e] at hx ⊢
   exact (h1.2 f t).2 ⟨_, hx⟩
theorem ends_are {ps : List Pc} (h : okP ps = true) (hn : nfN ps < 24) (i : Nat) : (if i = 0 then (nfT ps).2.nl else (nfT ps).2.la i) = nfF ps i := by
 obtain ⟨_, _, h3, h4⟩ := nfT_tie h hn
 unfold nfF
 by_cases e : i = 0
 ·rw [if_pos e, if_pos e, h4]
 ·rw [if_neg e, if_neg e]
  have h5 := h3 i
  by_cases m : (i : Int) ∈ (nfS ps).2.la
  ·rw [h5.2 m, decide_eq_true m]
  ·rw [decide_eq_false m, Bool.eq_false_iff]
   exact fun e2 => m (h5.1 e2)
end Go.Proofs.YtbepmeipjdpipaaGreat

namespace Go.Proofs.YtbepmeipjdpipaaGreat
open Go.RowKit
def atOk (x : At) : Bool := (readP x.2.1).isSome && qname x.1 && qname x.2.2 && nfG ((readP x.2.1).getD [])
def atsOk (t : List At) (k : Nat) : Bool := (List.range k).all fun i => atOk (aat t i)
theorem atsOk_succ (t : List At) (k : Nat) : atsOk t (k + 1) = (atsOk t k && atOk (aat t k)) := by simp [atsOk, List.range_succ]
theorem atsOk_no {t : List At} {i k : Nat} (h : i < k) (h1 : atOk (aat t i) = false) : atsOk t k = false := by
 refine Bool.eq_false_iff.2 fun e => ?_
 have := List.all_eq_true.1 e i (List.mem_range.2 h)
 rw [h1] at this
 cases this
def flOk (ns : List Tx) (f : Fl) : Bool := inL f.1 ns && (decide (1 ≤ f.2.1) && decide (f.2.1 ≤ 2)) && ((f.2.2.1.toList == (⟨#[]⟩ : ByteArray).toList) || (inL f.2.2.1 ns && decide (f.2.2.2 = 0))) && (decide (0 ≤ f.2.2.2) && decide (f.2.2.2 ≤ 99))
def flsOk (ns : List Tx) (l : List Fl) (k : Nat) : Bool := (List.range k).all fun i => flOk ns (fat l i)
theorem flsOk_succ (ns : List Tx) (l : List Fl) (k : Nat) : flsOk ns l (k + 1) = (flsOk ns l k && flOk ns (fat l k)) := by simp [flsOk, List.range_succ]
theorem flsOk_no {ns : List Tx} {l : List Fl} {i k : Nat} (h : i < k) (h1 : flOk ns (fat l i) = false) : flsOk ns l k = false := by
 refine Bool.eq_false_iff.2 fun e => ?_
 have := List.all_eq_true.1 e i (List.mem_range.2 h)
 rw [h1] at this
 cases this
def ouOk (ns o : List Tx) (i : Nat) : Bool := inL (tat o i) ns && !inL (tat o i) (o.take i)
def ousOk (ns o : List Tx) (k : Nat) : Bool := (List.range k).all fun i => ouOk ns o i
theorem ousOk_succ (ns o : List Tx) (k : Nat) : ousOk ns o (k + 1) = (ousOk ns o k && ouOk ns o k) := by simp [ousOk, List.range_succ]
theorem ousOk_no {ns o : List Tx} {i k : Nat} (h : i < k) (h1 : ouOk ns o i = false) : ousOk ns o k = false := by
 refine Bool.eq_false_iff.2 fun e => ?_
 have := List.all_eq_true.1 e i (List.mem_range.2 h)
 rw [h1] at this
 cases this
theorem apart_few : ∀ {o ns : List Tx}, o.Nodup → (∀ x ∈ o, x ∈ ns) → o.length ≤ ns.length
 | [], _, _, _ => Nat.zero_le _
 | x :: o, ns, hd, hs => by
  obtain ⟨s, t, rfl⟩ := List.append_of_mem (hs x (by simp))
  have h1 := List.nodup_cons.1 hd
  have := apart_few (o := o) (ns := s ++ t) h1.2 (fun y hy => by
   have h2 := hs y (by simp [hy])
   have h3 : y ≠ x := fun e => h1.1 (e ▸ hy)
   simp only [List.mem_append, List.mem_cons] at h2 ⊢
   rcases h2 with h2 | h2 | h2
   ·exact .inl h2
   ·exact absurd h2 h3
   ·exact .inr h2)
  simp only [List.length_append, List.length_cons] at this ⊢
  omega
theorem nodup_take {o : List Tx} (h : ∀ i, i < o.length → tat o i ∉ o.take i) : ∀ k, k ≤ o.length → (o.take k).Nodup
 | 0, _ => by simp
 | k + 1, hk => by
  rw [List.take_add_one, List.getElem?_eq_getElem (by omega)]
  refine List.nodup_append.2 ⟨nodup_take h k (by omega), by simp, fun a ha b hb e => ?_⟩
  simp at hb
  subst e
  have := h k (by omega)
  rw [tat_get (by omega)] at this
  exact this (hb ▸ ha)
theorem ousOk_few {ns o : List Tx} (h : ousOk ns o o.length = true) : o.length ≤ ns.length := by
 have hh : ∀ i, i < o.length → tat o i ∈ ns ∧ tat o i ∉ o.take i := fun i hi => by
  have := List.all_eq_true.1 h i (List.mem_range.2 hi)
  unfold ouOk at this
  simp only [Bool.and_eq_true, Bool.not_eq_true'] at this
  exact ⟨inL_iff.1 this.1, fun e => by rw [inL_iff.2 e] at this; exact absurd this.2 (by simp)⟩
 have hn := nodup_take (fun i hi => (hh i hi).2) o.length (Nat.le_refl _)
 rw [List.take_length] at hn
 refine apart_few hn fun x hx => ?_
 obtain ⟨i, hi, e⟩ := List.getElem_of_mem hx
 have := (hh i hi).1
 rw [tat_get hi, e] at this
 exact this
def qOk (o : List Tx) (t : List At) (f : List Fl) : Bool := (decide (1 ≤ t.length) && decide (t.length ≤ 4)) && decide (f.length ≤ 3) && (decide (1 ≤ o.length) && decide (o.length ≤ 4)) && atsOk t t.length && ousOk (nmL t t.length) o o.length && flsOk (nmL t t.length) f f.length && decide ((nmL t t.length).length ≤ 4)
theorem qOk_bad {o : List Tx} {t : List At} {f : List Fl} (h : ¬ (1 ≤ t.length ∧ t.length ≤ 4 ∧ f.length ≤ 3 ∧ 1 ≤ o.length ∧ o.length ≤ 4)) : qOk o t f = false := by
 refine Bool.eq_false_iff.2 fun e => h ?_
 unfold qOk at e
 simp only [Bool.and_eq_true, decide_eq_true_eq] at e
 omega
theorem qOk_at {o : List Tx} {t : List At} {f : List Fl} (h : atsOk t t.length = false) : qOk o t f = false := by unfold qOk; rw [h]; simp
theorem qOk_ou {o : List Tx} {t : List At} {f : List Fl} (h : ousOk (nmL t t.length) o o.length = false) : qOk o t f = false := by unfold qOk; rw [h]; simp
theorem qOk_fl {o : List Tx} {t : List At} {f : List Fl} (h : flsOk (nmL t t.length) f f.length = false) : qOk o t f = false := by unfold qOk; rw [h]; simp
theorem qOk_end {o : List Tx} {t : List At} {f : List Fl} (h : 1 ≤ t.length ∧ t.length ≤ 4 ∧ f.length ≤ 3 ∧ 1 ≤ o.length ∧ o.length ≤ 4) (h1 : atsOk t t.length = true) (h2 : ousOk (nmL t t.length) o o.length = true) (h3 : flsOk (nmL t t.length) f f.length = true) : qOk o t f = decide ((nmL t t.length).length ≤ 4) := by
 unfold qOk
 rw [h1, h2, h3, decide_eq_true h.1, decide_eq_true h.2.1, decide_eq_true h.2.2.1, decide_eq_true h.2.2.2.1, decide_eq_true h.2.2.2.2]
 rfl
theorem qOk_impl {o : List Tx} {t : List At} {f : List Fl} (h : 1 ≤ t.length ∧ t.length ≤ 4 ∧ f.length ≤ 3) (h1 : atsOk t t.length = true) (h3 : flsOk (nmL t t.length) f f.length = true) : qOk o t f = (decide ((nmL t t.length).length ≤ 4) && (ousOk (nmL t t.length) o o.length && decide (0 < o.length))) := by
 unfold qOk
 rw [h1, h3, decide_eq_true h.1, decide_eq_true h.2.1, decide_eq_true h.2.2]
 by_cases h4 : (nmL t t.length).length ≤ 4
 ·rcases Bool.eq_false_or_eq_true (ousOk (nmL t t.length) o o.length) with e | e
  ·have := ousOk_few e
   have h5 : o.length ≤ 4 := by omega
   rw [e, decide_eq_true h4, decide_eq_true h5]
   simp
   omega
  ·rw [e]; simp
 ·rw [decide_eq_false h4]; simp
def ixN (x : Tx) : List Tx → Nat
 | [] => 0
 | y :: l => if y = x then 0 else ixN x l + 1
def ixL (x : Tx) (l : List Tx) : Int := if ixN x l < l.length then (ixN x l : Int) else -1
theorem ixN_of {x : Tx} : ∀ {l : List Tx} {k : Nat}, k ≤ l.length → (∀ j, j < k → tat l j ≠ x) → (k < l.length → tat l k = x) → ixN x l = k
 | [], k, hk, _, _ => by simp at hk; subst hk; rfl
 | y :: l, 0, _, _, h => by
  have : y = x := by simpa [tat] using h (by simp)
  simp [ixN, this]
 | y :: l, k + 1, hk, h0, h => by
  have h1 : y ≠ x := by simpa [tat] using h0 0 (by omega)
  unfold ixN
  rw [if_neg h1, ixN_of (k := k) (by simpa using hk) (fun j hj => by simpa [tat] using h0 (j + 1) (by omega)) (fun hh => by simpa [tat] using h (by simpa using hh))]
theorem ixL_at {x : Tx} {l : List Tx} {k : Nat} (hk : k < l.length) (h0 : ∀ j, j < k → tat l j ≠ x) (h : tat l k = x) : ixL x l = k := by
 unfold ixL
 rw [ixN_of (by omega) h0 (fun _ => h), if_pos hk]
theorem ixL_no {x : Tx} {l : List Tx} (h0 : ∀ j, j < l.length → tat l j ≠ x) : ixL x l = -1 := by
 unfold ixL
 rw [ixN_of (k := l.length) (by omega) h0 (fun h => absurd h (by omega)), if_neg (by omega)]
theorem ixL_iff {x : Tx} {l : List Tx} : decide (0 ≤ ixL x l) = inL x l := by
 by_cases h : ∃ i, i < l.length ∧ tat l i = x
 ·have : inL x l = true := inL_iff.2 ((mem_upto l x).2 h)
  rw [this]
  unfold ixL
  have h2 : ixN x l < l.length := by
   obtain ⟨i, hi, e⟩ := h
   have : ∀ (l : List Tx) (i : Nat), i < l.length → tat l i = x → ixN x l < l.length := by
    intro l
    induction l with
    | nil => intro i hi; simp at hi
    | cons y l ih =>
     intro i hi e
     unfold ixN
     by_cases hy : y = x
     ·rw [if_pos hy]; simp
     ·rw [if_neg hy]
      match i, hi, e with
      | 0, _, e => exact absurd (by simpa [tat] using e) hy
      | i + 1, hi, e =>
       have := ih i (by simpa using hi) (by simpa [tat] using e)
       simp
       exact this
   exact this l i hi e
  rw [if_pos h2]
  exact decide_eq_true (by omega)
 ·have h2 : ∀ j, j < l.length → tat l j ≠ x := fun j hj e => h ⟨j, hj, e⟩
  have : inL x l = false := Bool.eq_false_iff.2 fun e => h ((mem_upto l x).1 (inL_iff.1 e))
  rw [ixL_no h2, this]
  rfl
theorem FlIn.take {lo hi n k : Nat} {w : World} {a : Option Addr} {l : List Tx} (h : FlIn 1 lo hi w a n (tC l)) (hk : k ≤ n) : FlIn 1 lo hi w a k (tC (l.take k)) := by
 rcases h with h | ⟨b, o, h1, h2, h3, h4⟩
 ·exact .inl (by omega)
 ·refine .inr ⟨b, o, h1, h2, h3, fun j hj => ?_⟩
  rw [h4 j (by omega)]
  unfold tC
  have : tat (l.take k) j = tat l j := by
   unfold tat
   simp only [List.getD_eq_getElem?_getD]
   rw [List.getElem?_take_of_lt (by omega)]
  rw [this]
end Go.Proofs.YtbepmeipjdpipaaGreat

namespace Go.Proofs.YtbepmeipjdpipaaGreat
open Go.RowKit
set_option maxHeartbeats 2000000 in
theorem index_any (lo hi : Nat) (a : Option Addr) (n cap : Nat) (l : List Tx) (x : Tx) (r : Int) (w : World) (ha : FlIn 1 lo hi w a n (tC l)) (hn : l.length = n) (hm : n ≤ 9223372036854775807) (hr : r = ixL x l) :
  Calls Tryz.prog 70 #[.slice a n cap, .string x] w fun e w' => e = .returned (.int .i64 r) ∧ w = w' := by
 have HN : Hid (l.length = n) := hn
 have HA : Hid (FlIn 1 lo hi w a n (tC l)) := ha
 have HR : Hid (r = ixL x l) := hr
 clear ha hn hr
 go_enter Tryz.func70, Tryz.ntmps70
 go_wp2
 go_loopw [8, 5] (fun i v wr => ∃ k : Nat, i = .int .i64 (k : Int) ∧ wr = w ∧ k ≤ n ∧ Hid (∀ j, j < k → tat l j ≠ x)) (fun i _ _ => n - (intOf i).toNat)
 case atStart => exact ⟨0, rfl, rfl, by omega, fun j hj => absurd hj (by omega)⟩
 case round =>
  obtain ⟨k, rfl, rfl, hk, HP⟩ := hrel
  by_cases hlt : k < n
  ·have hlt1 : (k : Int) < (n : Int) := by omega
   have hlt0 : (0 : Int) ≤ (k : Int) := by omega
   obtain ⟨b, o, rfl, _, _, hc⟩ := HA.out.at hlt
   obtain ⟨y, HY⟩ : ∃ y, Hid (y = tat l k) := ⟨_, rfl⟩
   have p0 := hc 0 (by omega)
   rw [tC0, ← HY.out, Nat.mul_one, Nat.add_zero] at p0
   clear hc
   by_cases hxy : y = x
   ·have hne : (x.toList == y.toList) = true := by rw [toList_eq]; exact decide_eq_true hxy.symm
    have hf : r = (k : Int) := by rw [HR.out]; exact ixL_at (by rw [HN.out]; exact hlt) HP.out (by rw [← HY.out, hxy])
    have HXY : Hid (y = x) := hxy
    clear hxy
    subst hf
    go_wp2
    go_ret
    exact ⟨rfl, rfl⟩
   ·have hne : (x.toList == y.toList) = false := by rw [toList_eq]; exact decide_eq_false fun e => hxy e.symm
    have HXY : Hid (¬ y = x) := hxy
    clear hxy
    go_wp2
    go_roundw
    case rel => exact ⟨k + 1, by go_num, trivial, by omega, fun j hj => by
     by_cases e : j = k
     ·subst e; rw [← HY.out]; exact HXY.out
     ·exact HP.out j (by omega)⟩
    case measure => simp [intOf]; omega
  ·obtain rfl : k = n := by omega
   have hf : r = -1 := by rw [HR.out]; exact ixL_no (fun j hj => HP.out j (by rw [← HN.out]; exact hj))
   subst hf
   go_wp2
   go_ret
   exact ⟨rfl, rfl⟩
theorem contains_any (lo hi : Nat) (a : Option Addr) (n cap : Nat) (l : List Tx) (x : Tx) (r : Bool) (w : World) (ha : FlIn 1 lo hi w a n (tC l)) (hn : l.length = n) (hm : n ≤ 9223372036854775807) (hr : r = inL x l) :
  Calls Tryz.prog 50 #[.slice a n cap, .string x] w fun e w' => e = .returned (.bool r) ∧ w = w' := by
 have HI := index_any lo hi a n cap l x (ixL x l) w ha hn hm rfl
 obtain ⟨i, hi0⟩ : ∃ i, i = ixL x l := ⟨_, rfl⟩
 rw [← hi0] at HI
 have hri : r = decide (0 ≤ i) := by rw [hr, hi0, ixL_iff]
 clear ha hn hr hi0
 subst hri
 go_enter Tryz.func50, Tryz.ntmps50
 go_wp2_with fail
 refine HI.mono ?_
 rintro e1 w1 ⟨rfl, rfl⟩
 go_wp2
 go_ret
 exact ⟨rfl, rfl⟩
end Go.Proofs.YtbepmeipjdpipaaGreat
