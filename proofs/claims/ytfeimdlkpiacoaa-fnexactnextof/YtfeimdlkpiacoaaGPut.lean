/-
  spec.l04Put.
-/
import Derived.Test.YtfeimdlkpiacoaaGCln
namespace Go.Proofs.Ytfeimdlkpiacoaa
open Go.RowKit

theorem filter_step {p : Ed → Bool} {l : List Ed} {k : Nat} (h : k < l.length) : (l.take (k + 1)).filter p = (l.take k).filter p ++ (if p (eat l k) = true then [eat l k] else []) := by
  rw [take_snocE l h, List.filter_append]
  by_cases hp : p (eat l k) = true <;> simp [hp]
theorem filter_len {p : Ed → Bool} (l : List Ed) (k : Nat) : ((l.take k).filter p).length ≤ k := Nat.le_trans (List.length_filter_le _ _) (by rw [List.length_take]; omega)

set_option maxHeartbeats 4000000 in
set_option maxRecDepth 100000 in
theorem l04Put_any (lo hi : Nat) (a : Option Addr) (n cap : Nat) (l : List Ed) (e : Ed) (w : World) (ha : EdgesIn lo hi w a l) (hh : hi ≤ w.heap.size) (hn : l.length = n) (hm : n ≤ 1048576) :
    Calls Try.prog 37 #[.slice a n cap, ev e] w fun r w' => ∃ (a' : Option Addr) (n' cap' : Nat), r = .returned (.slice a' n' cap') ∧ Hid ((putE l e).length = n') ∧ Hid (w'.ownsRow w.heap.size 37 3 (.slice a' n' cap') n' (ecells (putE l e))) ∧ Hid (Below w.heap.size w w') := by
  have HN : Hid (l.length = n) := hn
  have HA : Hid (EdgesIn lo hi w a l) := ha
  have HH : Hid (hi ≤ w.heap.size) := hh
  obtain ⟨i0, hi0, hz0, hz1, hz2⟩ := info_parts Try.info37
  clear ha hh hn
  obtain ⟨B, HB⟩ : ∃ B, Hid (B = w.heap.size) := ⟨_, rfl⟩
  obtain ⟨F1, HF1⟩ : ∃ F : Nat → List Ed, Hid (F = fun k => (l.take k).filter (fun x => ltE x e)) := ⟨_, rfl⟩
  obtain ⟨F2, HF2⟩ : ∃ F : Nat → List Ed, Hid (F = fun k => (l.take k).filter (fun x => ltE e x)) := ⟨_, rfl⟩
  have HPUT : Hid (putE l e = F1 n ++ (e :: F2 n)) := by show _ = _; rw [HF1.out, HF2.out, ← HN.out]; simp only [List.take_length]; rfl
  have HL1 : Hid (∀ k, (F1 k).length ≤ k) := by intro k; rw [HF1.out]; exact filter_len l k
  have HL2 : Hid (∀ k, (F2 k).length ≤ k) := by intro k; rw [HF2.out]; exact filter_len l k
  obtain ⟨W0, HW0⟩ : ∃ W0, Hid (W0 = (w.alloc (.cells #[.int .i64 e.1, .int .u8 e.2.1, .int .i64 e.2.2] 37))) := ⟨_, rfl⟩
  have HK0 : Hid (Blk W0 B 3 (fun i => if i = 0 then .int .i64 e.1 else if i = 1 then .int .u8 e.2.1 else .int .i64 e.2.2)) := by rw [HW0.out]; exact blk_three w B HB.out _ _ _ _
  have HBW : Hid (Below w.heap.size w W0) := by rw [HW0.out]; exact below1 w _
  have HSW : Hid (W0.heap.size = B + 1) := by rw [HW0.out, HB.out]; show _ = _; simp
  have HAW : Hid (EdgesIn lo hi W0 a l) := HA.out.below HBW.out HH.out
  have HHW : Hid (hi ≤ W0.heap.size) := Nat.le_trans HH.out HBW.out.size
  have HST1 : Hid (∀ k, k < n → F1 (k + 1) = F1 k ++ (if ltE (eat l k) e = true then [eat l k] else [])) := by intro k hk; rw [HF1.out]; exact filter_step (by rw [HN.out]; exact hk)
  have HST2 : Hid (∀ k, k < n → F2 (k + 1) = F2 k ++ (if ltE e (eat l k) = true then [eat l k] else [])) := by intro k hk; rw [HF2.out]; exact filter_step (p := fun x => ltE e x) (by rw [HN.out]; exact hk)
  have HZ1 : Hid (F1 0 = []) := by rw [HF1.out]; rfl
  have HZ2 : Hid (F2 0 = []) := by rw [HF2.out]; rfl
  clear HF1 HF2
  obtain ⟨e0, e1, e2⟩ := e
  go_enter Try.func37, Try.ntmps37
  go_wp2
  rw [← HB.out]
  change Hid (W0 = w.alloc (.cells #[.int .i64 e0, .int .u8 e1, .int .i64 e2] 37)) at HW0
  rw [← HW0.out]
  clear HW0
  go_loopw [6, 5] (fun i v wr => ∃ k m : Nat, i = .int .i64 k ∧ k ≤ n ∧ Hid (wr.ownsRow (B + 1) 37 3 v m (ecells (F1 k))) ∧ Hid ((F1 k).length = m) ∧ Hid (Below (B + 1) W0 wr)) (fun i _ _ => n - (intOf i).toNat)
  case atStart =>
    refine ⟨0, 0, rfl, by omega, ?_, by show _ = _; rw [HZ1.out]; rfl, ?_⟩
    · rw [HZ1.out]
      show World.ownsRow _ _ _ _ _ _ []
      have := World.ownsRow_made W0 (base := B + 1) (e := 37) (size := 3) #[] 0 (by rw [HSW.out]; exact Nat.le_refl _) (Nat.zero_le _) rfl
      simpa [HSW.out] using this
    · exact (Below.refl _ _).alloc (by rw [HSW.out]; exact Nat.le_refl _) _
  case round =>
    obtain ⟨k, m, rfl, hk, HO, HM, HL⟩ := hrel
    have HKR : Hid (Blk wr B 3 (fun i => if i = 0 then .int .i64 e0 else if i = 1 then .int .u8 e1 else .int .i64 e2)) := HK0.out.of_block (HL.out.block _ (by omega))
    have hmk : m ≤ k := by rw [← HM.out]; exact HL1.out k
    by_cases hlt : k < n
    · have hlt1 : (k : Int) < (n : Int) := by omega
      have hlt0 : (0 : Int) ≤ (k : Int) := by omega
      have HBR : Hid (EdgesIn lo hi wr a l) := HAW.out.below HL.out (by have := HHW.out; have := HSW.out; omega)
      obtain ⟨b, o, rfl, _, _, hx⟩ := HBR.out.edge (k := k) (by rw [HN.out]; exact hlt)
      obtain ⟨x, HXX⟩ : ∃ x : Ed, Hid (x = eat l k) := ⟨_, rfl⟩
      rw [← HXX.out] at hx
      obtain ⟨q, HQ⟩ : ∃ q : Bool, Hid (q = ltE x (e0, e1, e2)) := ⟨_, rfl⟩
      have HSTEP : Hid (F1 (k + 1) = F1 k ++ (if q = true then [x] else [])) := by show _ = _; rw [HST1.out k hlt, HQ.out, HXX.out]
      obtain ⟨x0, x1, x2⟩ := x
      obtain ⟨p0, p1, p2⟩ := hx
      dsimp only at p0 p1 p2
      obtain ⟨c0, c1, c2⟩ := blk_three_set HKR.out
      have HKS : Hid (∀ w', Below wr.heap.size wr w' → ((w'.cell? ⟨B, 0, none⟩ = some (.int .i64 e0) ∧ w'.cell? ⟨B, 1, none⟩ = some (.int .u8 e1) ∧ w'.cell? ⟨B, 2, none⟩ = some (.int .i64 e2)) ∧ (w'.cell? ⟨b, o + k * 3, none⟩ = some (.int .i64 x0) ∧ w'.cell? ⟨b, o + k * 3 + 1, none⟩ = some (.int .u8 x1) ∧ w'.cell? ⟨b, o + k * 3 + 2, none⟩ = some (.int .i64 x2)))) := fun w' h => ⟨⟨cell_below c0 h (lt_of_cell c0), cell_below c1 h (lt_of_cell c1), cell_below c2 h (lt_of_cell c2)⟩, ⟨cell_below p0 h (lt_of_cell p0), cell_below p1 h (lt_of_cell p1), cell_below p2 h (lt_of_cell p2)⟩⟩
      have HC : Hid (∀ w0, Below wr.heap.size wr w0 → Calls Try.prog 32 #[ev (x0, x1, x2), ev (e0, e1, e2)] w0 fun e w' => e = .returned (.bool q) ∧ Hid (Below wr.heap.size wr w') ∧ ((w'.cell? ⟨B, 0, none⟩ = some (.int .i64 e0) ∧ w'.cell? ⟨B, 1, none⟩ = some (.int .u8 e1) ∧ w'.cell? ⟨B, 2, none⟩ = some (.int .i64 e2)) ∧ (w'.cell? ⟨b, o + k * 3, none⟩ = some (.int .i64 x0) ∧ w'.cell? ⟨b, o + k * 3 + 1, none⟩ = some (.int .u8 x1) ∧ w'.cell? ⟨b, o + k * 3 + 2, none⟩ = some (.int .i64 x2)))) := fun w0 h =>
        (specLess_edge _ _ q w0 HQ.out).mono fun _ _ ⟨h1, h2⟩ => have hk := h.trans (h2.out.mono h.size); ⟨h1, hk, HKS.out _ hk⟩
      go_wp2_with fail
      go_region_held3 (fun w' => (w'.cell? ⟨B, 0, none⟩ = some (.int .i64 e0) ∧ w'.cell? ⟨B, 1, none⟩ = some (.int .u8 e1) ∧ w'.cell? ⟨B, 2, none⟩ = some (.int .i64 e2)) ∧ (w'.cell? ⟨b, o + k * 3, none⟩ = some (.int .i64 x0) ∧ w'.cell? ⟨b, o + k * 3 + 1, none⟩ = some (.int .u8 x1) ∧ w'.cell? ⟨b, o + k * 3 + 2, none⟩ = some (.int .i64 x2))) (first | exact ⟨⟨c0, c1, c2⟩, ⟨p0, p1, p2⟩⟩ | exact hk1) (first | (go_at_call 32; refine (HC.out _ ((Below.refl _ _).drew)).mono ?_; rintro e w1 ⟨rfl, HB1, hk1⟩))
      have hszr : B + 1 ≤ wr.heap.size := by have := HL.out.size; have := HSW.out; omega
      have HL1x : Hid (Below (B + 1) W0 w1) := HL.out.trans (HB1.out.mono hszr)
      have HO1x : Hid (w1.ownsRow (B + 1) 37 3 _ m (ecells (F1 k))) := owns_upto HO.out (fun k hk => (HO.out.lt k hk).2) (fun k _ hk => HB1.out.block k hk)
      have hsz1 : B + 1 ≤ w1.heap.size := Nat.le_trans hszr HB1.out.size
      obtain ⟨⟨_, _, _⟩, d0, d1, d2⟩ := hk1
      clear p0 p1 p2 c0 c1 c2 HKS HC
      rcases Bool.eq_false_or_eq_true q with hq | hq
      · subst hq
        obtain ⟨LL, HLL⟩ : ∃ LL, Hid (LL = F1 k) := ⟨_, rfl⟩
        rw [← HLL.out] at HO1x
        have hown := HO1x.out.alloc (.cells #[.int .i64 x0, .int .u8 x1, .int .i64 x2] 37)
        go_wp2_with (at_builtin; refine wpList_append_lies _ rfl (.tmp 21) (.tmp 26) 27 rfl (B + 1) 37 i0 _ 3 24 Try.underlying27 hi0 hz0 hz1 hz2 rfl (by decide) _ m (ecells LL) rfl hown ⟨w1.heap.size, 0, none⟩ 1 1 [.int .i64 x0, .int .u8 x1, .int .i64 x2] rfl rfl (news_three w1 _ _ _ _) (by simp [Value.oneCell']) (by decide) (by unfold maxLen; omega) (by omega) (by simp; omega) _ rfl ?_)
        intro g2 cap2 w2 hown2 hgrow2 _ _
        have HL2x : Hid (Below (B + 1) W0 w2) := (HL1x.out.alloc hsz1 _).grown hgrow2 (by simp; omega) (fun k hk => (HO1x.out.lt k hk).1)
        go_wp2
        go_roundw
        case rel =>
          have e9 : F1 (k + 1) = LL ++ [(x0, x1, x2)] := by rw [HLL.out, HSTEP.out]; simp
          refine ⟨k + 1, m + 1, by go_num, by omega, ?_, ?_, HL2x⟩
          · rw [e9, ecells_snoc]; exact hown2
          · show _ = _; rw [e9, List.length_append, HLL.out, HM.out]; rfl
        case measure => simp [intOf]; omega
      · subst hq
        go_wp2
        go_roundw
        case rel =>
          have e9 : F1 (k + 1) = (F1 k) := by rw [HSTEP.out]; simp
          refine ⟨k + 1, m, by go_num, by omega, ?_, ?_, HL1x⟩
          · rw [e9]; exact HO1x.out
          · show _ = _; rw [e9, HM.out]
        case measure => simp [intOf]; omega
    · obtain rfl : k = n := by omega
      obtain ⟨p0, p1, p2⟩ := blk_three_set HKR.out
      have hown := HO.out.alloc (.cells #[.int .i64 e0, .int .u8 e1, .int .i64 e2] 37)
      have hsz : B + 1 ≤ wr.heap.size := by have := HL.out.size; have := HSW.out; omega
      go_wp2_with (at_builtin; refine wpList_append_lies _ rfl (.tmp 28) (.tmp 30) 27 rfl (B + 1) 37 i0 _ 3 24 Try.underlying27 hi0 hz0 hz1 hz2 rfl (by decide) _ m (ecells (F1 k)) rfl hown ⟨wr.heap.size, 0, none⟩ 1 1 [.int .i64 e0, .int .u8 e1, .int .i64 e2] rfl rfl (news_three wr _ _ _ _) (by simp [Value.oneCell']) (by decide) (by unfold maxLen; omega) (by omega) (by simp; omega) _ rfl ?_)
      intro g1 cap1 w1 hown1 hgrow1 _ _
      have HO1 : Hid (w1.ownsRow (B + 1) 37 3 (.slice (some ⟨g1, 0, none⟩) (m + 1) cap1) (m + 1) (ecells (F1 k ++ [(e0, e1, e2)]))) := by rw [ecells_snoc]; exact hown1
      have HL1' : Hid (Below (B + 1) W0 w1) := (HL.out.alloc hsz _).grown hgrow1 (by simp; omega) (fun k hk => (HO.out.lt k hk).1)
      clear hown hown1 hgrow1 p0 p1 p2 HO HL
      go_wp2
      go_loopw [7, 5] (fun i v wq => ∃ k2 m2 : Nat, i = .int .i64 k2 ∧ k2 ≤ k ∧ Hid (wq.ownsRow (B + 1) 37 3 v m2 (ecells ((F1 k ++ [(e0, e1, e2)]) ++ F2 k2))) ∧ Hid (((F1 k ++ [(e0, e1, e2)]) ++ F2 k2).length = m2) ∧ Hid (Below (B + 1) W0 wq)) (fun i _ _ => k - (intOf i).toNat)
      case atStart =>
        refine ⟨0, m + 1, rfl, by omega, ?_, by show _ = _; rw [HZ2.out, List.append_nil, List.length_append, HM.out]; rfl, HL1'⟩
        rw [HZ2.out, List.append_nil]; exact HO1.out
      case round =>
        obtain ⟨k2, m2, rfl, hk2, HO, HM2, HL⟩ := hrel
        have HKR : Hid (Blk wr B 3 (fun i => if i = 0 then .int .i64 e0 else if i = 1 then .int .u8 e1 else .int .i64 e2)) := HK0.out.of_block (HL.out.block _ (by omega))
        have hm2 : m2 ≤ m + 1 + k2 := by rw [← HM2.out, List.length_append, List.length_append, HM.out]; have := HL2.out k2; simp; omega
        by_cases hlt : k2 < k
        · have hlt1 : (k2 : Int) < (k : Int) := by omega
          have hlt0 : (0 : Int) ≤ (k2 : Int) := by omega
          have HBR : Hid (EdgesIn lo hi wr a l) := HAW.out.below HL.out (by have := HHW.out; have := HSW.out; omega)
          obtain ⟨b, o, rfl, _, _, hx⟩ := HBR.out.edge (k := k2) (by rw [HN.out]; exact hlt)
          obtain ⟨x, HXX⟩ : ∃ x : Ed, Hid (x = eat l k2) := ⟨_, rfl⟩
          rw [← HXX.out] at hx
          obtain ⟨q, HQ⟩ : ∃ q : Bool, Hid (q = ltE (e0, e1, e2) x) := ⟨_, rfl⟩
          have HSTEP : Hid (F2 (k2 + 1) = F2 k2 ++ (if q = true then [x] else [])) := by show _ = _; rw [HST2.out k2 hlt, HQ.out, HXX.out]
          obtain ⟨x0, x1, x2⟩ := x
          obtain ⟨p0, p1, p2⟩ := hx
          dsimp only at p0 p1 p2
          obtain ⟨c0, c1, c2⟩ := blk_three_set HKR.out
          have HKS : Hid (∀ w', Below wr.heap.size wr w' → ((w'.cell? ⟨B, 0, none⟩ = some (.int .i64 e0) ∧ w'.cell? ⟨B, 1, none⟩ = some (.int .u8 e1) ∧ w'.cell? ⟨B, 2, none⟩ = some (.int .i64 e2)) ∧ (w'.cell? ⟨b, o + k2 * 3, none⟩ = some (.int .i64 x0) ∧ w'.cell? ⟨b, o + k2 * 3 + 1, none⟩ = some (.int .u8 x1) ∧ w'.cell? ⟨b, o + k2 * 3 + 2, none⟩ = some (.int .i64 x2)))) := fun w' h => ⟨⟨cell_below c0 h (lt_of_cell c0), cell_below c1 h (lt_of_cell c1), cell_below c2 h (lt_of_cell c2)⟩, ⟨cell_below p0 h (lt_of_cell p0), cell_below p1 h (lt_of_cell p1), cell_below p2 h (lt_of_cell p2)⟩⟩
          have HC : Hid (∀ w0, Below wr.heap.size wr w0 → Calls Try.prog 32 #[ev (e0, e1, e2), ev (x0, x1, x2)] w0 fun e w' => e = .returned (.bool q) ∧ Hid (Below wr.heap.size wr w') ∧ ((w'.cell? ⟨B, 0, none⟩ = some (.int .i64 e0) ∧ w'.cell? ⟨B, 1, none⟩ = some (.int .u8 e1) ∧ w'.cell? ⟨B, 2, none⟩ = some (.int .i64 e2)) ∧ (w'.cell? ⟨b, o + k2 * 3, none⟩ = some (.int .i64 x0) ∧ w'.cell? ⟨b, o + k2 * 3 + 1, none⟩ = some (.int .u8 x1) ∧ w'.cell? ⟨b, o + k2 * 3 + 2, none⟩ = some (.int .i64 x2)))) := fun w0 h =>
            (specLess_edge _ _ q w0 HQ.out).mono fun _ _ ⟨h1, h2⟩ => have hk := h.trans (h2.out.mono h.size); ⟨h1, hk, HKS.out _ hk⟩
          go_wp2_with fail
          go_region_held3 (fun w' => (w'.cell? ⟨B, 0, none⟩ = some (.int .i64 e0) ∧ w'.cell? ⟨B, 1, none⟩ = some (.int .u8 e1) ∧ w'.cell? ⟨B, 2, none⟩ = some (.int .i64 e2)) ∧ (w'.cell? ⟨b, o + k2 * 3, none⟩ = some (.int .i64 x0) ∧ w'.cell? ⟨b, o + k2 * 3 + 1, none⟩ = some (.int .u8 x1) ∧ w'.cell? ⟨b, o + k2 * 3 + 2, none⟩ = some (.int .i64 x2))) (first | exact ⟨⟨c0, c1, c2⟩, ⟨p0, p1, p2⟩⟩ | exact hk1) (first | (go_at_call 32; refine (HC.out _ ((Below.refl _ _).drew)).mono ?_; rintro e w1 ⟨rfl, HB1, hk1⟩))
          have hszr : B + 1 ≤ wr.heap.size := by have := HL.out.size; have := HSW.out; omega
          have HL1x : Hid (Below (B + 1) W0 w1) := HL.out.trans (HB1.out.mono hszr)
          have HO1x : Hid (w1.ownsRow (B + 1) 37 3 _ m2 (ecells ((F1 k ++ [(e0, e1, e2)]) ++ F2 k2))) := owns_upto HO.out (fun k hk => (HO.out.lt k hk).2) (fun k _ hk => HB1.out.block k hk)
          have hsz1 : B + 1 ≤ w1.heap.size := Nat.le_trans hszr HB1.out.size
          obtain ⟨⟨_, _, _⟩, d0, d1, d2⟩ := hk1
          clear p0 p1 p2 c0 c1 c2 HKS HC
          rcases Bool.eq_false_or_eq_true q with hq | hq
          · subst hq
            obtain ⟨LL, HLL⟩ : ∃ LL, Hid (LL = (F1 k ++ [(e0, e1, e2)]) ++ F2 k2) := ⟨_, rfl⟩
            rw [← HLL.out] at HO1x
            have hown := HO1x.out.alloc (.cells #[.int .i64 x0, .int .u8 x1, .int .i64 x2] 37)
            go_wp2_with (at_builtin; refine wpList_append_lies _ rfl (.tmp 44) (.tmp 49) 27 rfl (B + 1) 37 i0 _ 3 24 Try.underlying27 hi0 hz0 hz1 hz2 rfl (by decide) _ m2 (ecells LL) rfl hown ⟨w1.heap.size, 0, none⟩ 1 1 [.int .i64 x0, .int .u8 x1, .int .i64 x2] rfl rfl (news_three w1 _ _ _ _) (by simp [Value.oneCell']) (by decide) (by unfold maxLen; omega) (by omega) (by simp; omega) _ rfl ?_)
            intro g2 cap2 w2 hown2 hgrow2 _ _
            have HL2x : Hid (Below (B + 1) W0 w2) := (HL1x.out.alloc hsz1 _).grown hgrow2 (by simp; omega) (fun k hk => (HO1x.out.lt k hk).1)
            go_wp2
            go_roundw
            case rel =>
              have e9 : (F1 k ++ [(e0, e1, e2)]) ++ F2 (k2 + 1) = LL ++ [(x0, x1, x2)] := by rw [HLL.out, HSTEP.out]; simp
              refine ⟨k2 + 1, m2 + 1, by go_num, by omega, ?_, ?_, HL2x⟩
              · rw [e9, ecells_snoc]; exact hown2
              · show _ = _; rw [e9, List.length_append, HLL.out, HM2.out]; rfl
            case measure => simp [intOf]; omega
          · subst hq
            go_wp2
            go_roundw
            case rel =>
              have e9 : (F1 k ++ [(e0, e1, e2)]) ++ F2 (k2 + 1) = ((F1 k ++ [(e0, e1, e2)]) ++ F2 k2) := by rw [HSTEP.out]; simp
              refine ⟨k2 + 1, m2, by go_num, by omega, ?_, ?_, HL1x⟩
              · rw [e9]; exact HO1x.out
              · show _ = _; rw [e9, HM2.out]
            case measure => simp [intOf]; omega
        · obtain rfl : k2 = k := by omega
          have HFIN := HO.out
          rw [List.append_assoc, List.singleton_append, ← HPUT.out] at HFIN
          have HFL : Hid ((putE l (e0, e1, e2)).length = m2) := by have h := HM2.out; rw [List.append_assoc, List.singleton_append, ← HPUT.out] at h; exact h
          obtain ⟨a9, cap9, hv9, _⟩ := edges_own HFIN HFL.out
          subst hv9
          have HFX : Hid (wr.ownsRow (B + 1) 37 3 (.slice a9 m2 cap9) m2 (ecells (putE l (e0, e1, e2)))) := HFIN
          clear HFIN
          go_wp2
          go_ret
          exact ⟨a9, m2, cap9, rfl, HFL, owns_low HFX.out (by rw [HB.out]; omega), HBW.out.trans (HL.out.mono (by rw [HB.out]; omega))⟩
end Go.Proofs.Ytfeimdlkpiacoaa
