/-
  impl.TurnedPath.
-/
import Derived.Test.YtgfioakidefkdaaRev
import Derived.Test.YtgfioakidefkdaaShpB
namespace Go.Proofs.Ytgfioakidefkdaa
open Go.RowKit

/-- a piece the other way round -/
def turnPc (x : Pc) : Pc := if x.1 = 2 then (x.1, x.2.1, x.2.2.reverse) else x
/-- the path that leads back; as it is where it is not right -/
def turnP (l : List Pc) : List Pc := if okP l = true then l.map turnPc else l
def turnTo (l : List Pc) (k : Nat) : List Pc := (List.range l.length).map fun i => if i < k then turnPc (pat l i) else pat l i
theorem turnTo_len (l : List Pc) (k : Nat) : (turnTo l k).length = l.length := by simp [turnTo]
theorem turnTo_at {l : List Pc} {k i : Nat} (h : i < l.length) : pat (turnTo l k) i = if i < k then turnPc (pat l i) else pat l i := by simp [turnTo, pat, List.getD, h]
theorem turnTo_zero (l : List Pc) : turnTo l 0 = l := by
  refine pat_ext (turnTo_len l 0) fun i hi => ?_
  rw [turnTo_at (by rw [turnTo_len] at hi; exact hi)]; simp
theorem turnTo_all (l : List Pc) : turnTo l l.length = l.map turnPc := by
  refine pat_ext (by simp [turnTo]) fun i hi => ?_
  have h2 : i < l.length := by rw [turnTo_len] at hi; exact hi
  rw [turnTo_at h2, if_pos h2]
  simp [pat, List.getD, h2]
theorem turnPc_len (x : Pc) : (turnPc x).2.2.length = x.2.2.length := by unfold turnPc; split <;> simp
theorem turnP_len (l : List Pc) : (turnP l).length = l.length := by unfold turnP; split <;> simp
theorem turnP_at {l : List Pc} {i : Nat} (h : i < l.length) : pat (turnP l) i = if okP l = true then turnPc (pat l i) else pat l i := by
  unfold turnP
  split
  · simp [pat, List.getD, h]
  · rfl
theorem turnP_row {l : List Pc} {i : Nat} (h : i < l.length) : (pat (turnP l) i).2.2.length = (pat l i).2.2.length := by
  rw [turnP_at h]; split
  · exact turnPc_len _
  · rfl
theorem turnP_kids {l : List Pc} : ∀ {k : Nat}, k ≤ l.length → kidsLen (turnP l) k = kidsLen l k
  | 0, _ => rfl
  | k + 1, h => by simp only [kidsLen]; rw [turnP_kids (by omega), turnP_row (by omega)]
theorem turnP_yes {l : List Pc} (h : okP l = true) : turnP l = l.map turnPc := by unfold turnP; rw [if_pos h]
theorem turnP_no {l : List Pc} (h : okP l = false) : turnP l = l := by unfold turnP; rw [if_neg (by rw [h]; decide)]

/-- kids of one piece changed in place -/
theorem PartPc.kids {lo hi b n k : Nat} {w w1 : World} {l l' : List Pc} {f : Nat → Value} {R : Nat → Option Addr} {C : Nat → Nat} {r' : List Int}
    (h1 : Blk w b (n * 3) f)
    (h2 : ∀ i, i < n → f (i * 3) = .int .i64 (pat l i).1 ∧ f (i * 3 + 1) = .int .u8 (pat l i).2.1 ∧ f (i * 3 + 2) = .slice (R i) (pat l i).2.2.length (C i) ∧ RowOwn lo hi w (R i) (pat l i).2.2 ∧ ((pat l i).2.2 ≠ [] → (∀ c, R i = some ⟨c, 0, none⟩ → c ≠ b) ∧ ∀ j, j < i → (pat l j).2.2 ≠ [] → R j ≠ R i))
    (hk : k < n) (hK : KeptP (fun c => (pat l k).2.2 ≠ [] ∧ R k = some ⟨c, 0, none⟩) w w1) (hr : RowOwn lo hi w1 (R k) r') (hl : r'.length = (pat l k).2.2.length)
    (e1 : pat l' k = ((pat l k).1, (pat l k).2.1, r')) (e2 : ∀ i, i < n → i ≠ k → pat l' i = pat l i) : PartPc lo hi w1 b l' n n := by
  have hrow : ∀ i, i < n → (pat l' i).2.2.length = (pat l i).2.2.length := by
    intro i hi
    by_cases e : i = k
    · subst e; rw [e1]; exact hl
    · rw [e2 i hi e]
  have hne : ∀ i, i < n → ((pat l' i).2.2 ≠ [] ↔ (pat l i).2.2 ≠ []) := fun i hi => ne_nil_len (hrow i hi)
  have hb1 := hK.blk h1 (fun ⟨h3, h4⟩ => ((h2 k hk).2.2.2.2 h3).1 b h4 rfl)
  refine ⟨f, R, C, hb1, fun i hin => ?_⟩
  obtain ⟨p0, p1, p2, p3, p4⟩ := h2 i hin
  refine ⟨?_, ?_, by rw [p2, hrow i hin], ?_, ?_⟩
  · by_cases e : i = k
    · subst e; rw [e1]; exact p0
    · rw [p0, e2 i hin e]
  · by_cases e : i = k
    · subst e; rw [e1]; exact p1
    · rw [p1, e2 i hin e]
  · by_cases e : i = k
    · subst e; rw [e1]; exact hr
    · rw [e2 i hin e]
      by_cases hi0 : (pat l i).2.2 = []
      · exact .inl hi0
      · rcases p3 with h | ⟨c, ec, h5, h6, h7⟩
        · exact absurd h hi0
        · refine .inr ⟨c, ec, h5, h6, hK.blk h7 (fun ⟨h9, h10⟩ => ?_)⟩
          rcases Nat.lt_or_ge i k with h | h
          · exact ((h2 k hk).2.2.2.2 h9).2 i h hi0 (by rw [ec, h10])
          · exact (p4 hi0).2 k (by omega) h9 (by rw [ec, h10])
  · intro h3
    have h4 := p4 ((hne i hin).1 h3)
    exact ⟨h4.1, fun j hj hj0 => h4.2 j hj ((hne j (by omega)).1 hj0)⟩
theorem PartPc.same {lo hi b n k : Nat} {w : World} {l l' : List Pc} (h : PartPc lo hi w b l n k) (e : ∀ i, i < k → pat l' i = pat l i) : PartPc lo hi w b l' n k := by
  obtain ⟨f, R, C, h1, h2⟩ := h
  refine ⟨f, R, C, h1, fun i hi => ?_⟩
  obtain ⟨p0, p1, p2, p3, p4⟩ := h2 i hi
  rw [e i hi]
  exact ⟨p0, p1, p2, p3, fun hne => ⟨(p4 hne).1, fun j hj hnj => (p4 hne).2 j hj (by rw [← e j (by omega)]; exact hnj)⟩⟩

set_option maxHeartbeats 4000000 in
set_option maxRecDepth 100000 in
theorem turnedPath_any (lo hi : Nat) (a : Option Addr) (n cap : Nat) (l : List Pc) (w : World) (ha : PathIn lo hi w a l) (hh : hi ≤ w.heap.size) (hn : l.length = n) (hm : n ≤ 1048576) (hq : ∀ i, i < n → (pat l i).2.2.length ≤ 1048576) :
    Calls Try.prog 11 #[pv a n cap] w fun e w' => ∃ a' cap', e = .returned (pv a' n cap') ∧ Hid (PathOwn w.heap.size w'.heap.size w' a' (turnP l)) ∧ Hid (Below w.heap.size w w') := by
  have HN : Hid (l.length = n) := hn
  have HA : Hid (PathIn lo hi w a l) := ha
  have HH : Hid (hi ≤ w.heap.size) := hh
  have HQ : Hid (∀ i, i < n → (pat l i).2.2.length ≤ 1048576) := hq
  clear ha hh hn hq
  obtain ⟨r, HR⟩ : ∃ r, Hid (r = okP l) := ⟨_, rfl⟩
  obtain ⟨B, HB⟩ : ∃ B, Hid (B = w.heap.size) := ⟨_, rfl⟩
  obtain ⟨W, HW⟩ : ∃ W, Hid (W = (w.alloc (.cells #[.slice a n cap] 30)).alloc (.cells #[.slice none 0 0] 30)) := ⟨_, rfl⟩
  have HBW : Hid (Below w.heap.size w W) := by rw [HW.out]; exact below2 w _ _
  have HSW : Hid (W.heap.size = B + 2) := by rw [HW.out, HB.out]; show _ = _; simp
  have HG : Hid (Blk W B 1 (fun _ => .slice a n cap)) := by rw [HW.out]; exact (blk_one w B HB.out _ _).alloc _
  have HK : Hid (Blk W (B + 1) 1 (fun _ => .slice none 0 0)) := by rw [HW.out]; exact blk_one _ (B + 1) (by rw [HB.out]; simp) _ _
  go_enter Try.func11, Try.ntmps11
  go_wp2_with fail
  rw [← HB.out, ← HW.out]
  refine (newPath_any lo hi a n cap l W (HA.out.below HBW.out HH.out) (Nat.le_trans HH.out HBW.out.size) HN.out hm HQ.out).mono ?_
  rintro e w1 ⟨a1, cap1, rfl, X1, B1⟩
  obtain ⟨P, HP⟩ : ∃ P, Hid (P = w1.heap.size) := ⟨_, rfl⟩
  obtain ⟨W1, HW1⟩ : ∃ W1, Hid (W1 = w1.alloc (.cells #[.slice a1 n cap1] 30)) := ⟨_, rfl⟩
  have HB1 : Hid (Below (B + 2) W W1) := by rw [HW1.out, ← HSW.out]; exact B1.out.trans ((below1 w1 _).mono B1.out.size)
  have HX1 : Hid (PathOwn (B + 2) P W1 a1 l) := by rw [HW1.out, HP.out, ← HSW.out]; exact X1.out.below (below1 _ _) (Nat.le_refl _)
  have HT1 : Hid (Blk W1 P 1 (fun _ => .slice a1 n cap1)) := by rw [HW1.out]; exact blk_one w1 P HP.out _ _
  have HPB : Hid (B + 2 ≤ P ∧ W1.heap.size = P + 1) := by rw [HP.out, HW1.out]; refine ⟨?_, by simp⟩; have := B1.out.size; have := HSW.out; omega
  have HK1 : Hid (Blk W1 (B + 1) 1 (fun _ => .slice none 0 0)) := HK.out.of_block (HB1.out.block _ (by omega))
  have HG1 : Hid (Blk W1 B 1 (fun _ => .slice a n cap)) := HG.out.of_block (HB1.out.block _ (by omega))
  have HBE : Hid (Below w.heap.size w W1) := HBW.out.trans (HB1.out.mono (by rw [HB.out]; omega))
  go_upto_region 2 with fail
  rw [← HP.out, ← HW1.out]
  clear X1 B1 HK HG HW HW1
  have g0 := HG1.out.cell (i := 0) (by omega)
  go_wp2_with fail
  refine (pathOk_any lo hi a n cap l r W1 (HA.out.below HBE.out HH.out) (Nat.le_trans HH.out HBE.out.size) HN.out hm HQ.out HR.out).mono ?_
  rintro e w2 ⟨rfl, B2⟩
  have HX2 : Hid (PathOwn (B + 2) P w2 a1 l) := HX1.out.below B2.out (by have := HPB.out; omega)
  have HT2 : Hid (Blk w2 P 1 (fun _ => .slice a1 n cap1)) := HT1.out.of_block (B2.out.block _ HT1.out.lt)
  have HK2 : Hid (Blk w2 (B + 1) 1 (fun _ => .slice none 0 0)) := HK1.out.of_block (B2.out.block _ HK1.out.lt)
  have HBE2 : Hid (Below w.heap.size w w2) := HBE.out.trans (B2.out.mono HBE.out.size)
  have HPB2 : Hid (B + 2 ≤ P ∧ P < w2.heap.size) := ⟨HPB.out.1, HT2.out.lt⟩
  clear g0 HX1 HT1 HK1 HG1 HBE HPB B2 HB1
  have t0 := HT2.out.cell (i := 0) (by omega)
  rcases Bool.eq_false_or_eq_true r with hr | hr
  · subst hr
    have HTU : Hid (turnP l = l.map turnPc) := turnP_yes HR.out.symm
    go_wp2
    clear t0
    go_loopw [15] (fun i wr => ∃ k : Nat, i = .int .i64 k ∧ k ≤ n ∧ Hid (PathOwn (B + 2) P wr a1 (turnTo l k)) ∧ Hid (KeptP (fun c => B + 2 ≤ c ∧ c < P) w2 wr)) (fun i _ => n - (intOf i).toNat)
    case atStart => exact ⟨0, rfl, by omega, by rw [turnTo_zero]; exact HX2, KeptP.refl _ _⟩
    case round =>
      obtain ⟨k, rfl, hk, HXR, HL⟩ := hrel
      by_cases hlt : k < n
      · have hlt1 : (k : Int) < (n : Int) := by omega
        have hlt0 : (0 : Int) ≤ (k : Int) := by omega
        have hkl : k < l.length := by rw [HN.out]; exact hlt
        obtain ⟨b, rfl, hb1, hb2, f, R, C, hblk, hrows⟩ : ∃ b, a1 = some ⟨b, 0, none⟩ ∧ B + 2 ≤ b ∧ b < P ∧ PartPc (B + 2) P wr b (turnTo l k) (turnTo l k).length (turnTo l k).length := by
          rcases HXR.out with h | h
          · have := turnTo_len l k; rw [h] at this; simp at this; omega
          · exact h
        rw [turnTo_len, HN.out] at hblk hrows
        have HBB : Hid (B + 2 ≤ b ∧ b < P) := ⟨hb1, hb2⟩
        have HBK : Hid (Blk wr b (n * 3) f) := hblk
        have HRS : Hid (∀ i, i < n → f (i * 3) = .int .i64 (pat (turnTo l k) i).1 ∧ f (i * 3 + 1) = .int .u8 (pat (turnTo l k) i).2.1 ∧ f (i * 3 + 2) = .slice (R i) (pat (turnTo l k) i).2.2.length (C i) ∧ RowOwn (B + 2) P wr (R i) (pat (turnTo l k) i).2.2 ∧ ((pat (turnTo l k) i).2.2 ≠ [] → (∀ c, R i = some ⟨c, 0, none⟩ → c ≠ b) ∧ ∀ j, j < i → (pat (turnTo l k) j).2.2 ≠ [] → R j ≠ R i)) := hrows
        have HAT : Hid (pat (turnTo l k) k = pat l k) := by show _ = _; rw [turnTo_at hkl, if_neg (by omega)]
        have HOTH : Hid (∀ i, i < n → i ≠ k → pat (turnTo l (k + 1)) i = pat (turnTo l k) i) := by
          intro i hi hne
          rw [turnTo_at (by rw [HN.out]; exact hi), turnTo_at (by rw [HN.out]; exact hi)]
          by_cases e : i < k
          · rw [if_pos (by omega), if_pos e]
          · rw [if_neg (by omega), if_neg e]
        have HNEW : Hid (pat (turnTo l (k + 1)) k = turnPc (pat l k)) := by show _ = _; rw [turnTo_at hkl, if_pos (by omega)]
        have HQK : Hid ((pat l k).2.2.length ≤ 1048576) := HQ.out k hlt
        obtain ⟨z, HZ⟩ : ∃ z, Hid (z = pat l k) := ⟨_, rfl⟩
        rw [← HZ.out] at HNEW HAT HQK
        obtain ⟨x, y, ks⟩ := z
        obtain ⟨ra, HRA⟩ : ∃ ra, Hid (ra = R k) := ⟨_, rfl⟩
        obtain ⟨rc, HRC⟩ : ∃ rc, Hid (rc = C k) := ⟨_, rfl⟩
        obtain ⟨q, HKL⟩ : ∃ q, Hid (ks.length = q) := ⟨_, rfl⟩
        have d0 := hblk.cell (i := k * 3) (by omega)
        have d1 := hblk.cell (i := k * 3 + 1) (by omega)
        have d2 := hblk.cell (i := k * 3 + 2) (by omega)
        obtain ⟨s0, s1, s2, s3, s4⟩ := hrows k hlt
        rw [s0, HAT.out] at d0
        rw [s1, HAT.out] at d1
        rw [s2, HAT.out, ← HRA.out, ← HRC.out] at d2
        dsimp only at d0 d1 d2 HQK
        rw [HKL.out] at d2 HQK
        have hqk : q ≤ 1048576 := HQK.out
        have HOW : Hid (RowOwn (B + 2) P wr ra ks) := by rw [HRA.out]; rw [HAT.out] at s3; exact s3
        have HOF : Hid (ks ≠ [] → ∀ c, ra = some ⟨c, 0, none⟩ → c ≠ b) := by rw [HRA.out]; rw [HAT.out] at s4; exact fun hne => (s4 hne).1
        obtain ⟨E, HEE⟩ : ∃ E, Hid (E = wr.heap.size) := ⟨_, rfl⟩
        obtain ⟨V, HV⟩ : ∃ V, Hid (V = wr.alloc (.cells #[.int .i64 x, .int .u8 y, .slice ra q rc] 72)) := ⟨_, rfl⟩
        have HVB : Hid (Below wr.heap.size wr V) := by rw [HV.out]; exact below1 _ _
        obtain ⟨q0, q1, q2⟩ : V.cell? ⟨E, 0, none⟩ = some (.int .i64 x) ∧ V.cell? ⟨E, 1, none⟩ = some (.int .u8 y) ∧ V.cell? ⟨E, 2, none⟩ = some (.slice ra q rc) := by rw [HV.out]; exact box_cells wr _ _ _ 72 _ HEE.out
        have HSZ : Hid (P < wr.heap.size) := Nat.lt_of_lt_of_le HPB2.out.2 HL.out.size
        have HLV : Hid (KeptP (fun c => B + 2 ≤ c ∧ c < P) w2 V) := HL.out.trans (KeptP.of_below HVB.out (fun k hk _ => hk))
        have HBKV : Hid (Blk V b (n * 3) f) := HBK.out.of_block (HVB.out.block _ (by have := HSZ.out; have := HBB.out; omega))
        have HRSV : Hid (∀ i, i < n → f (i * 3) = .int .i64 (pat (turnTo l k) i).1 ∧ f (i * 3 + 1) = .int .u8 (pat (turnTo l k) i).2.1 ∧ f (i * 3 + 2) = .slice (R i) (pat (turnTo l k) i).2.2.length (C i) ∧ RowOwn (B + 2) P V (R i) (pat (turnTo l k) i).2.2 ∧ ((pat (turnTo l k) i).2.2 ≠ [] → (∀ c, R i = some ⟨c, 0, none⟩ → c ≠ b) ∧ ∀ j, j < i → (pat (turnTo l k) j).2.2 ≠ [] → R j ≠ R i)) := fun i hi =>
          ⟨(HRS.out i hi).1, (HRS.out i hi).2.1, (HRS.out i hi).2.2.1, (HRS.out i hi).2.2.2.1.below HVB.out (by have := HSZ.out; omega), (HRS.out i hi).2.2.2.2⟩
        have HOWV : Hid (RowOwn (B + 2) P V ra ks) := HOW.out.below HVB.out (by have := HSZ.out; omega)
        clear hblk hrows hb1 hb2 s0 s1 s2 s3 s4 HRS HBK HOW HVB
        go_upto_region 7 with fail
        rw [← HEE.out, ← HV.out]
        clear d0 d1 d2 HV
        by_cases hx : x = 2
        · subst hx
          have HN2 : Hid (pat (turnTo l (k + 1)) k = (2, y, ks.reverse)) := HNEW.out
          clear HNEW
          go_wp2_with fail
          refine (reverse_any (fun c => ks ≠ [] ∧ ra = some ⟨c, 0, none⟩) (B + 2) P ra q rc ks V HOWV.out HKL.out hqk (fun c hc hne => ⟨hne, hc⟩)).mono ?_
          rintro e w3 ⟨rfl, HR3, HK3⟩
          have HPT : Hid (PartPc (B + 2) P w3 b (turnTo l (k + 1)) n n) := by
            refine PartPc.kids (k := k) (r' := ks.reverse) HBKV.out HRSV.out hlt ?_ ?_ ?_ ?_ HOTH.out
            · rw [HAT.out, ← HRA.out]; exact HK3.out
            · rw [← HRA.out]; exact HR3.out
            · rw [HAT.out]; simp
            · rw [HN2.out, HAT.out]
          have HL3 : Hid (KeptP (fun c => B + 2 ≤ c ∧ c < P) w2 w3) := by
            refine HLV.out.trans (HK3.out.mono ?_)
            rintro c ⟨h3, h4⟩
            rcases HOWV.out with h | ⟨c', ec, h5, h6, _⟩
            · exact absurd h h3
            · rw [h4] at ec; simp at ec; subst ec; exact ⟨h5, h6⟩
          clear HR3 HK3 q0 q1 q2
          go_wp2
          go_roundw
          case rel => exact ⟨k + 1, by go_num, by omega, .inr ⟨b, rfl, HBB.out.1, HBB.out.2, by rw [turnTo_len, HN.out]; exact HPT.out⟩, HL3⟩
          case measure => simp [intOf]; omega
        · have HN2 : Hid (pat (turnTo l (k + 1)) k = (x, y, ks)) := by show _ = _; rw [HNEW.out]; unfold turnPc; rw [if_neg hx]
          have HPT : Hid (PartPc (B + 2) P V b (turnTo l (k + 1)) n n) := PartPc.same (l := turnTo l k) ⟨f, R, C, HBKV.out, HRSV.out⟩ (fun i hi => by
            by_cases e : i = k
            · subst e; rw [HN2.out, HAT.out]
            · exact HOTH.out i hi e)
          go_wp2
          go_roundw
          case rel => exact ⟨k + 1, by go_num, by omega, .inr ⟨b, rfl, HBB.out.1, HBB.out.2, by rw [turnTo_len, HN.out]; exact HPT.out⟩, HLV⟩
          case measure => simp [intOf]; omega
      · obtain rfl : k = n := by omega
        have t1 := (HL.out.blk HT2.out (by omega)).cell (i := 0) (by omega)
        have k1 := (HL.out.blk HK2.out (by omega)).cell (i := 0) (by omega)
        have f1 := (HL.out.blk HK2.out (by omega)).frozen 0
        have HTA : Hid (turnTo l k = l.map turnPc) := by show _ = _; rw [← HN.out]; exact turnTo_all l
        rw [HTA.out] at HXR
        have HBF : Hid (Below w.heap.size w wr) := HBE2.out.trans (HL.out.to_below HBE2.out.size (fun c hc => by have := HB.out; omega))
        have HSZ : Hid (P < wr.heap.size) := Nat.lt_of_lt_of_le HPB2.out.2 HL.out.size
        go_wp2
        refine bodyPost_ret (v := .agg #[.slice a1 k cap1]) (by simp [results, Try.results11, go_sem, k1]) rfl ?_
        refine ⟨a1, cap1, rfl, ?_, HBF.out.setCell (p := ⟨B + 1, 0, none⟩) (by show w.heap.size ≤ B + 1; have := HB.out; omega) _⟩
        show PathOwn _ _ _ _ (turnP l)
        rw [HTU.out]
        exact (HXR.out.setCell (b := B + 1) (j := 0) (by omega) _).wide (by have := HB.out; omega) (by have := HSZ.out; simp; omega)
  · subst hr
    have HTU : Hid (turnP l = l) := turnP_no HR.out.symm
    have k1 := HK2.out.cell (i := 0) (by omega)
    have f1 := HK2.out.frozen 0
    go_wp2
    refine bodyPost_ret (v := .agg #[.slice a1 n cap1]) (by simp [results, Try.results11, go_sem, k1]) rfl ?_
    refine ⟨a1, cap1, rfl, ?_, HBE2.out.setCell (p := ⟨B + 1, 0, none⟩) (by show w.heap.size ≤ B + 1; have := HB.out; omega) _⟩
    show PathOwn _ _ _ _ (turnP l)
    rw [HTU.out]
    exact (HX2.out.setCell (b := B + 1) (j := 0) (by omega) _).wide (by have := HB.out; omega) (by have := HPB2.out; simp; omega)
end Go.Proofs.Ytgfioakidefkdaa
