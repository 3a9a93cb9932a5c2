/-
  Leads of a step: (impl.inGraph).step.
-/
import Derived.Test.YtdbogikcmfnpdaaLdC
import Derived.Test.YtdbogikcmfnpdaaNxI
import Derived.Test.YtdbogikcmfnpdaaPOk
import Derived.Deep.RegionWith
namespace Go.Proofs.Ytdbogikcmfnpdaa
open Go.RowKit

/-- where a step leads -/
def stepR (l : List Ed) (c : Int) : Rl := fun i j => l.any fun e => decide (e.1 = (i : Int)) && decide (e.2.1 = c) && decide (e.2.2 = (j : Int))
theorem stepR_iff {l : List Ed} {c : Int} {i j : Nat} : stepR l c i j = true ↔ ((i : Int), c, (j : Int)) ∈ l := by
  unfold stepR
  rw [List.any_eq_true]
  constructor
  · rintro ⟨⟨x, y, z⟩, hx, h⟩
    simp only [Bool.and_eq_true, decide_eq_true_eq] at h
    obtain ⟨⟨rfl, rfl⟩, rfl⟩ := h
    exact hx
  · intro h
    exact ⟨_, h, by simp⟩
/-- a bit for each -/
def bitsOf (L : List Int) : Nat := L.foldl (fun a x => a ||| 2 ^ x.toNat) 0
theorem bitsOf_snoc (L : List Int) (x : Int) : bitsOf (L ++ [x]) = bitsOf L ||| 2 ^ x.toNat := by simp [bitsOf]
theorem bits_fold (j : Nat) : ∀ (L : List Int) (a : Nat), (∀ x ∈ L, 0 ≤ x) → (L.foldl (fun a x => a ||| 2 ^ x.toNat) a).testBit j = (a.testBit j || decide ((j : Int) ∈ L))
  | [], a, _ => by simp
  | x :: L, a, h => by
    have hx := h x (by simp)
    rw [List.foldl_cons, bits_fold j L _ (fun y hy => h y (by simp [hy])), Nat.testBit_or, Nat.testBit_two_pow, Bool.or_assoc]
    congr 1
    rw [Bool.eq_iff_iff]
    simp only [Bool.or_eq_true, decide_eq_true_eq, List.mem_cons]
    constructor
    · rintro (h | h)
      · exact .inl (by omega)
      · exact .inr h
    · rintro (h | h)
      · exact .inl (by omega)
      · exact .inr h
theorem bitsOf_bit (L : List Int) (hL : ∀ x ∈ L, 0 ≤ x) (j : Nat) : (bitsOf L).testBit j = decide ((j : Int) ∈ L) := by
  unfold bitsOf
  rw [bits_fold j L 0 hL]; simp
theorem fold_lt : ∀ (L : List Int) (a : Nat), (∀ x ∈ L, x < 12) → a < 65536 → L.foldl (fun a x => a ||| 2 ^ x.toNat) a < 65536
  | [], a, _, h => h
  | x :: L, a, h, ha => by
    rw [List.foldl_cons]
    refine fold_lt L _ (fun y hy => h y (by simp [hy])) (or_lt ha ?_)
    have hx := h x (by simp)
    have := Nat.pow_lt_pow_right (a := 2) (by omega) (show x.toNat < 16 by omega)
    simpa using this
theorem bitsOf_lt (L : List Int) (hL : ∀ x ∈ L, x < 12) : bitsOf L < 65536 := fold_lt L 0 hL (by omega)
theorem okG_edge {s : Int} {l : List Ed} (h : okG s l = true) {e : Ed} (he : e ∈ l) : 0 ≤ e.1 ∧ e.1 < s ∧ 0 ≤ e.2.2 ∧ e.2.2 < s := by
  have hx := (okG_iff.1 h).2.2.1 e he
  unfold okE inV at hx
  simp only [Bool.and_eq_true, decide_eq_true_eq] at hx
  omega
theorem okG_12 {s : Int} {l : List Ed} (h : okG s l = true) : 1 ≤ s ∧ s ≤ 12 := ⟨(okG_iff.1 h).1.1, (okG_iff.1 h).1.2⟩
theorem next_lt {s : Int} {l : List Ed} (h : okG s l = true) {f c x : Int} (hx : x ∈ nextE l f c) : 0 ≤ x ∧ x < s := by
  have := okG_edge h (nextE_mem.1 hx); exact ⟨this.2.2.1, this.2.2.2⟩
theorem step_rep {s : Int} {l : List Ed} (h : okG s l = true) (c : Int) {n : Nat} (hn : s = (n : Int)) : Rep n (fun v => bitsOf (nextE l (v : Int) c)) (stepR l c) := by
  intro i hi j
  show (bitsOf (nextE l (i : Int) c)).testBit j = _
  rw [bitsOf_bit _ (fun x hx => (next_lt h hx).1), Bool.eq_iff_iff]
  simp only [decide_eq_true_eq, Bool.and_eq_true, stepR_iff, nextE_mem]
  constructor
  · intro hm
    have := (okG_edge h hm).2.2
    dsimp only at this
    exact ⟨by omega, hm⟩
  · exact fun hm => hm.2

set_option maxHeartbeats 8000000 in
set_option maxRecDepth 100000 in
theorem leadsOfStep_any (lo hi : Nat) (s : Int) (a : Option Addr) (n cap : Nat) (l : List Ed) (c : Int) (N : Nat) (w : World) (ha : EdgesIn lo hi w a l) (hh : hi ≤ w.heap.size) (hn : l.length = n) (hm : n ≤ 1048576) (hok : okG s l = true) (hN : s = (N : Int)) :
    Calls Try.prog 73 #[gv s a n cap, .int .u8 c] w fun e w' => (∃ h, e = .returned (lv h) ∧ Hid (Rep N h (stepR l c)) ∧ Hid (∀ i, i < 13 → h i < 65536)) ∧ Hid (Below w.heap.size w w') := by
  have HN : Hid (l.length = n) := hn
  have HA : Hid (EdgesIn lo hi w a l) := ha
  have HH : Hid (hi ≤ w.heap.size) := hh
  have HOK : Hid (okG s l = true) := hok
  have hN12 : N ≤ 12 := by have := (okG_12 hok).2; omega
  subst hN
  clear ha hh hn hok
  obtain ⟨B, HB⟩ : ∃ B, Hid (B = w.heap.size) := ⟨_, rfl⟩
  obtain ⟨W, HW⟩ : ∃ W, Hid (W = ((w.alloc (.cells #[.int .i64 (N : Int), .slice a n cap] 127)).alloc (.cells #[.int .u16 0, .int .u16 0, .int .u16 0, .int .u16 0, .int .u16 0, .int .u16 0, .int .u16 0, .int .u16 0, .int .u16 0, .int .u16 0, .int .u16 0, .int .u16 0, .int .u16 0] 87)).alloc (.cells #[.int .u16 0, .int .u16 0, .int .u16 0, .int .u16 0, .int .u16 0, .int .u16 0, .int .u16 0, .int .u16 0, .int .u16 0, .int .u16 0, .int .u16 0, .int .u16 0, .int .u16 0] 87)) := ⟨_, rfl⟩
  have HBW : Hid (Below w.heap.size w W) := by rw [HW.out]; exact below3 w _ _ _
  have HG : Hid (Blk W B 2 (fun i => if i = 0 then .int .i64 (N : Int) else .slice a n cap)) := by rw [HW.out]; exact ((blk_two w B HB.out _ _ _).alloc _).alloc _
  have HR : Hid (LBlk W (B + 1) (fun _ => 0)) := by rw [HW.out]; exact Blk.alloc (LBlk.zero _ (B + 1) (by rw [HB.out]; simp) _) _
  have HX : Hid (LBlk W (B + 1 + 1) (fun _ => 0)) := by rw [HW.out]; exact LBlk.zero _ (B + 1 + 1) (by rw [HB.out]; simp) _
  have HSW : Hid (W.heap.size = B + 3) := by rw [HW.out, HB.out]; show _ = _; simp
  obtain ⟨g0, g1⟩ := blk_pair_cells HG.out
  go_enter Try.func73, Try.ntmps73
  go_upto_region 2 with fail
  rw [← HB.out, ← HW.out]
  clear HW
  go_wp2
  clear g0 g1
  go_loopw [12] (fun i wr => ∃ k : Nat, i = .int .i64 k ∧ k ≤ N ∧ Hid (LBlk wr (B + 1 + 1) (fun v => if v < k then bitsOf (nextE l (v : Int) c) else 0)) ∧ Hid (KeptP (fun b => b = B + 1 + 1) W wr)) (fun i _ => N - (intOf i).toNat)
  case atStart => exact ⟨0, rfl, by omega, HX.out.congr (fun i _ => by simp), KeptP.refl _ _⟩
  case round =>
    obtain ⟨k, rfl, hk, HXR, HL⟩ := hrel
    have HGR : Hid (Blk wr B 2 (fun i => if i = 0 then .int .i64 (N : Int) else .slice a n cap)) := HL.out.blk HG.out (by omega)
    have HBR : Hid (Below w.heap.size w wr) := HBW.out.trans (HL.out.to_below HBW.out.size (fun b hb => by have := HB.out; omega))
    by_cases hlt : k < N
    · have hlt1 : (k : Int) < (N : Int) := by omega
      have hlt0 : (0 : Int) ≤ (k : Int) := by omega
      have hk12 : k < 13 := by omega
      have hk12' : (k : Int) < 13 := by omega
      obtain ⟨c0, c1⟩ := blk_pair_cells HGR.out
      go_wp2_with fail
      refine (nextOf_any lo hi (N : Int) a n cap l (k : Int) c wr (HA.out.below HBR.out HH.out) (Nat.le_trans HH.out HBR.out.size) HN.out hm).mono ?_
      rintro e w2 ⟨a2, n2, cap2, rfl, HN2, HR2, HB2⟩
      obtain ⟨NL, HNL⟩ : ∃ NL, Hid (NL = nextE l (k : Int) c) := ⟨_, rfl⟩
      rw [← HNL.out] at HN2 HR2
      have HNX : Hid (∀ x ∈ NL, 0 ≤ x ∧ x < (N : Int)) := fun x hx => next_lt HOK.out (by rw [← HNL.out]; exact hx)
      have hn2 : n2 ≤ 1048576 := by rw [← HN2.out, HNL.out]; have := nextE_len l (k : Int) c; have := HN.out; omega
      have HX2 : Hid (LBlk w2 (B + 1 + 1) (fun v => if v < k then bitsOf (nextE l (v : Int) c) else 0)) := HXR.out.of (HB2.out.block _ HXR.out.lt)
      have HL2 : Hid (KeptP (fun b => b = B + 1 + 1) W w2) := HL.out.trans (KeptP.of_below HB2.out (fun b hb _ => hb))
      have HRI : Hid (RowIn wr.heap.size w2.heap.size w2 a2 NL) := HR2.out.toIn
      have hxl : B + 1 + 1 < wr.heap.size := HXR.out.lt
      clear c0 c1 HR2 HB2 HXR HL HGR
      go_wp2
      go_loopw [20] (fun j wr2 => ∃ m : Nat, j = .int .i64 m ∧ m ≤ n2 ∧ Hid (LBlk wr2 (B + 1 + 1) (fun v => if v < k then bitsOf (nextE l (v : Int) c) else if v = k then bitsOf (NL.take m) else 0)) ∧ Hid (KeptP (fun b => b = B + 1 + 1) w2 wr2)) (fun j _ => n2 - (intOf j).toNat)
      case atStart => exact ⟨0, rfl, by omega, HX2.out.congr (fun i _ => by by_cases e : i < k <;> simp [e, bitsOf]), KeptP.refl _ _⟩
      case round =>
        obtain ⟨m, rfl, hm2, HXQ, HLQ⟩ := hrel
        by_cases hmt : m < n2
        · have hmt1 : (m : Int) < (n2 : Int) := by omega
          have hmt0 : (0 : Int) ≤ (m : Int) := by omega
          have hml : m < NL.length := by rw [HN2.out]; exact hmt
          have HRQ := HRI.out.kept HLQ.out (Nat.le_refl _) (fun b h1 h2 h3 => by omega)
          obtain ⟨b, o, rfl, hc⟩ := HRQ.num (i := m) hml
          obtain ⟨x, HXX⟩ : ∃ x, Hid (x = NL.getD m 0) := ⟨_, rfl⟩
          rw [← HXX.out] at hc
          have hx := HNX.out x (by rw [HXX.out]; simp [List.getD, hml])
          obtain ⟨y, rfl⟩ : ∃ y : Nat, x = (y : Int) := ⟨x.toNat, by omega⟩
          have hy12 : y < 13 := by omega
          have HST : Hid (bitsOf (NL.take (m + 1)) = bitsOf (NL.take m) ||| 2 ^ y) := by
            show _ = _
            rw [take_snocI NL hml, bitsOf_snoc, ← HXX.out]; simp
          obtain ⟨z, HZZ⟩ : ∃ z, Hid (z = bitsOf (NL.take m)) := ⟨_, rfl⟩
          have hz : z < 65536 := by rw [HZZ.out]; exact bitsOf_lt _ (fun q hq => by have := HNX.out q (List.mem_of_mem_take hq); omega)
          rw [← HZZ.out] at HST
          have cw := HXQ.out.get hk12
          rw [if_neg (by omega), if_pos rfl, ← HZZ.out] at cw
          have fw := Blk.frozen HXQ.out k
          have hyp : 2 ^ y < 65536 := by
            have := Nat.pow_lt_pow_right (a := 2) (by omega) (show y < 16 by omega)
            simpa using this
          obtain ⟨u, HU⟩ : ∃ u, Hid (u = 2 ^ y) := ⟨2 ^ y, rfl⟩
          have hb := u16_or_nat z u hz (by rw [HU.out]; exact hyp)
          rw [← HU.out] at HST
          have HCE : Hid (∀ w0, Calls Try.prog 90 #[.int .i64 (y : Int)] w0 fun e w' => e = .returned (.int .u16 (u : Int)) ∧ w0 = w') := fun w0 => (endAt_any y w0 hy12).mono fun _ _ ⟨⟨q, h1, h2⟩, h3⟩ => ⟨by rw [HU.out, ← h2.out]; exact h1, h3⟩
          clear HRQ
          go_wp2_with fail
          go_region_with (go_at_call 90; refine (HCE.out _).mono ?_; rintro e w3 ⟨rfl, rfl⟩)
          all_goals
            go_wp2
            go_roundw
            case rel =>
              refine ⟨m + 1, by go_num, by omega, ?_, (HLQ.out.setCell rfl _).trans (KeptP.of_below ((Below.refl _ _).drew) (fun k hk _ => hk))⟩
              refine (HXQ.out.set1 hk12 (z ||| u)).congr fun i hi => ?_
              by_cases e : i = k
              · subst e; simp [HST.out]
              · simp [e]
            case measure => simp [intOf]; omega
        · obtain rfl : m = n2 := by omega
          have HTA : Hid (NL.take m = NL) := by show _ = _; rw [← HN2.out]; exact List.take_length
          go_wp2
          go_roundw
          case rel =>
            refine ⟨k + 1, by go_num, by omega, ?_, HL2.out.trans HLQ.out⟩
            refine HXQ.out.congr fun i hi => ?_
            by_cases e : i = k
            · subst e; rw [if_neg (by omega), if_pos rfl, if_pos (by omega), HTA.out, HNL.out]
            · by_cases e2 : i < k
              · simp [e2, show i < k + 1 by omega]
              · simp [e, e2, show ¬ i < k + 1 by omega]
          case measure => simp [intOf]; omega
    · obtain rfl : k = N := by omega
      obtain ⟨F, HFF⟩ : ∃ F : Nat → Nat, Hid (F = fun v => if v < k then bitsOf (nextE l (v : Int) c) else 0) := ⟨fun v => if v < k then bitsOf (nextE l (v : Int) c) else 0, rfl⟩
      rw [← HFF.out] at HXR
      have HRR : Hid (LBlk wr (B + 1) (fun _ => 0)) := HL.out.blk HR.out (by omega)
      go_wp2_with (first | (refine wpList_load_mid rfl 87 _ rfl (B + 1 + 1) 0 rfl (lcells F) _ HXR.out.range Try.underlying87 rfl (by rw [lcells_len]; exact info_leads) ?_) | (refine wpList_store_mid rfl 87 _ _ rfl (B + 1) 0 (lcells F).toArray rfl rfl (by rw [lcells_size]; exact HRR.out.there) (by rw [lcells_size]; exact info_leads) (lcells_one _) ?_))
      refine bodyPost_ret (results_row (by exact Try.results73) rfl (load_leads (HRR.out.put F))) rfl ?_
      refine ⟨⟨F, rfl, ?_, ?_⟩, Below.setCells (by have := HB.out; omega) _ _ HBR.out⟩
      · intro i hi j
        rw [HFF.out]
        dsimp only
        rw [if_pos hi]
        exact step_rep HOK.out c rfl i hi j
      · intro i hi
        rw [HFF.out]
        dsimp only
        split
        · exact bitsOf_lt _ (fun x hx => by have := next_lt HOK.out hx; omega)
        · omega
end Go.Proofs.Ytdbogikcmfnpdaa
