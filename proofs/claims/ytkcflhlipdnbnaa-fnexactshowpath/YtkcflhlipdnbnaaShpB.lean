/-
  impl.shapesOf, impl.PathOk.
-/
import Derived.Test.YtkcflhlipdnbnaaShp
import Derived.Test.YtkcflhlipdnbnaaGRdI
namespace Go.Proofs.Ytkcflhlipdnbnaa
open Go.RowKit

/-- the shapes of pieces, told one by one -/
def Shs (lo hi : Nat) (w : World) (xs : List Value) (l : List Pc) (k : Nat) : Prop :=
  xs.length = k ∧ ∀ i, i < k → ∃ ra rc, xs.getD i .nilIface = shv ra rc (pat l i) ∧ RowIn lo hi w ra (pat l i).2.2
theorem Shs.snoc {lo hi k : Nat} {w : World} {xs : List Value} {l : List Pc} {ra : Option Addr} {rc : Nat} (h : Shs lo hi w xs l k) (hr : RowIn lo hi w ra (pat l k).2.2) : Shs lo hi w (xs ++ [shv ra rc (pat l k)]) l (k + 1) := by
  obtain ⟨h1, h2⟩ := h
  refine ⟨by simp [h1], fun i hi => ?_⟩
  by_cases e : i < k
  · obtain ⟨a, c, h3, h4⟩ := h2 i e
    refine ⟨a, c, ?_, h4⟩
    rw [← h3]
    simp [List.getD, List.getElem?_append_left (show i < xs.length by omega)]
  · obtain rfl : i = k := by omega
    refine ⟨ra, rc, ?_, hr⟩
    simp [List.getD, ← h1]
theorem Shs.below {lo hi B k : Nat} {w w' : World} {xs : List Value} {l : List Pc} (h : Shs lo hi w xs l k) (hb : Below B w w') (hB : hi ≤ B) : Shs lo hi w' xs l k :=
  ⟨h.1, fun i hi => by obtain ⟨a, c, h3, h4⟩ := h.2 i hi; exact ⟨a, c, h3, h4.below hb hB⟩⟩
/-- what shapesOf tells -/
def ShsPost (lo hi : Nat) (w : World) (l : List Pc) (e : Ending) (w' : World) : Prop :=
  ∃ (v : Value) (r : Bool), e = .returned (.tuple #[v, .bool r]) ∧ Hid (r = okP l) ∧ Hid (r = true → ∃ xs : List Value, Shs lo hi w xs l l.length ∧ w'.ownsRow w.heap.size 130 1 v l.length xs) ∧ Hid (Below w.heap.size w w')
theorem shv_one (ra : Option Addr) (rc : Nat) (x : Pc) : (shv ra rc x).oneCell' = true := by
  unfold shv
  split
  · rfl
  split
  · rfl
  split
  · rfl
  split
  · rfl
  split
  · rfl
  · rfl
theorem shv_if (ra : Option Addr) (rc : Nat) (x : Pc) : ∃ t u, shv ra rc x = .iface t u := by
  unfold shv
  split
  · exact ⟨_, _, rfl⟩
  split
  · exact ⟨_, _, rfl⟩
  split
  · exact ⟨_, _, rfl⟩
  split
  · exact ⟨_, _, rfl⟩
  split
  · exact ⟨_, _, rfl⟩
  · exact ⟨_, _, rfl⟩
theorem Try.info130 : (Try.prog.info? 130).map (fun i => (i.zero, i.size, i.bytes)) = some (some .nilIface, 1, 16) := by kernel_rfl
theorem owns_wide {B B' e s n : Nat} {w : World} {v : Value} {xs : List Value} (h : w.ownsRow B e s v n xs) (hB : B' ≤ B) : w.ownsRow B' e s v n xs := by
  rcases h with ⟨h1, h2⟩
  refine ⟨h1, ?_⟩
  rcases h2 with h2 | ⟨g, cap, cur, e1, e2, e3⟩
  · exact .inl h2
  · exact .inr ⟨g, cap, cur, e1, by omega, e3⟩

set_option maxHeartbeats 1000000 in
theorem kidsStep_any (y : Int) (w : World) : Calls Try.prog 142 #[.agg #[.int .u8 y]] w fun e w' => e = .returned (.slice none 0 0) ∧ Hid (Below w.heap.size w w') := by
  go_enter Try.func142, Try.ntmps142
  go_wp2
  go_ret
  exact ⟨rfl, below1 _ _⟩
set_option maxHeartbeats 1000000 in
theorem kidsMany_any (ra : Option Addr) (q rc : Nat) (w : World) : Calls Try.prog 143 #[.agg #[.slice ra q rc]] w fun e w' => e = .returned (.slice ra q rc) ∧ Hid (Below w.heap.size w w') := by
  go_enter Try.func143, Try.ntmps143
  go_wp2
  go_ret
  exact ⟨rfl, below1 _ _⟩
set_option maxHeartbeats 1000000 in
theorem kidsOne_any (v : Int) (w : World) : Calls Try.prog 144 #[.agg #[.int .i64 v]] w fun e w' => ∃ g : Nat, e = .returned (.slice (some ⟨g, 0, none⟩) 1 1) ∧ Hid (RowIn 0 w'.heap.size w' (some ⟨g, 0, none⟩) [v]) ∧ Hid (Below w.heap.size w w') := by
  go_enter Try.func144, Try.ntmps144
  go_wp2
  go_ret
  refine ⟨w.heap.size + 1, rfl, ?_, below2 _ _ _⟩
  refine .inr ⟨w.heap.size + 1, 0, rfl, Nat.zero_le _, by simp, fun i hi => ?_⟩
  obtain rfl : i = 0 := by simpa using hi
  simp
theorem types144 : (Try.prog.types[139]'(by decide +kernel)).size = 1 := by kernel_rfl
theorem types149 : (Try.prog.types[146]'(by decide +kernel)).size = 1 := by kernel_rfl
theorem one_row {ks : List Int} {v : Int} (h : ks.length = 1) (hv : v = ks.getD 0 0) : ks = [v] := by
  match ks, h with
  | [x], _ => simp at hv; rw [hv]

set_option maxHeartbeats 8000000 in
set_option maxRecDepth 100000 in
theorem shapesOf_any (lo hi : Nat) (a : Option Addr) (n cap : Nat) (l : List Pc) (w : World) (ha : PathIn lo hi w a l) (hh : hi ≤ w.heap.size) (hn : l.length = n) (hm : n ≤ 1048576) (hq : ∀ i, i < n → (pat l i).2.2.length ≤ 1048576) :
    Calls Try.prog 38 #[pv a n cap] w fun e w' => ShsPost lo hi w l e w' := by
  have HN : Hid (l.length = n) := hn
  have HA : Hid (PathIn lo hi w a l) := ha
  have HH : Hid (hi ≤ w.heap.size) := hh
  have HQ : Hid (∀ i, i < n → (pat l i).2.2.length ≤ 1048576) := hq
  obtain ⟨i0, hi0, hz0, hz1, hz2⟩ := info_parts Try.info130
  clear ha hh hn hq
  have HNO : Hid (∀ w', okP l = false → Below w.heap.size w w' → ShsPost lo hi w l (.returned (.tuple #[.slice none 0 0, .bool false])) w') := by
    intro w' h1 h2
    refine ⟨_, false, rfl, h1.symm, ?_, h2⟩
    intro h; cases h
  obtain ⟨B, HB⟩ : ∃ B, Hid (B = w.heap.size) := ⟨_, rfl⟩
  unfold pv
  by_cases h1 : 1 ≤ n
  · have d1 : decide ((n : Int) < 1) = false := by simp; omega
    by_cases h2 : n ≤ 60
    · have d2 : decide ((60 : Int) < (n : Int)) = false := by simp; omega
      obtain ⟨W0, HW0⟩ : ∃ W0, Hid (W0 = w.alloc (.cells #[.slice a n cap] 34)) := ⟨_, rfl⟩
      have HK0 : Hid (Blk W0 B 1 (fun _ => .slice a n cap)) := by rw [HW0.out]; exact blk_one w B HB.out _ _
      have HBW : Hid (Below w.heap.size w W0) := by rw [HW0.out]; exact below1 w _
      have HSW : Hid (W0.heap.size = B + 1) := by rw [HW0.out, HB.out]; show _ = _; simp
      go_enter Try.func38, Try.ntmps38
      go_wp2
      rw [← HB.out, ← HW0.out]
      clear HW0
      go_loopw [25, 4] (fun i v wr => ∃ (k : Nat) (xs : List Value), i = .int .i64 k ∧ k ≤ n ∧ Hid (okToP l k = true) ∧ Hid (Shs lo hi w xs l k) ∧ Hid (wr.ownsRow (B + 1) 130 1 v k xs) ∧ Hid (Below (B + 1) W0 wr)) (fun i _ _ => n - (intOf i).toNat)
      case atStart =>
        refine ⟨0, [], rfl, by omega, rfl, ⟨rfl, fun i hi => absurd hi (by omega)⟩, ?_, ?_⟩
        · show World.ownsRow _ _ _ _ _ _ []
          have := World.ownsRow_made W0 (base := B + 1) (e := 130) (size := 1) #[] 0 (by rw [HSW.out]; exact Nat.le_refl _) (Nat.zero_le _) rfl
          simpa [HSW.out] using this
        · exact (Below.refl _ _).alloc (by rw [HSW.out]; exact Nat.le_refl _) _
      case round =>
        obtain ⟨k, xs, rfl, hk, HE, HS, HO, HL⟩ := hrel
        have hszr : B + 1 ≤ wr.heap.size := by have := HL.out.size; have := HSW.out; omega
        have HLW : Hid (Below w.heap.size w wr) := HBW.out.trans (HL.out.mono (by rw [HB.out]; omega))
        by_cases hlt : k < n
        · have hlt1 : (k : Int) < (n : Int) := by omega
          have hlt0 : (0 : Int) ≤ (k : Int) := by omega
          obtain ⟨b, o, rfl, _, _, hx⟩ := (HA.out.below HLW.out HH.out).piece (k := k) (by rw [HN.out]; exact hlt)
          obtain ⟨b9, o9, e9, _, _, hx0⟩ := HA.out.piece (k := k) (by rw [HN.out]; exact hlt)
          obtain ⟨z, HZ⟩ : ∃ z : Pc, Hid (z = pat l k) := ⟨_, rfl⟩
          have HQK : Hid ((pat l k).2.2.length ≤ 1048576) := HQ.out k hlt
          have HNOK : Hid ((formOk (pat l k) && kidsOk k (pat l k).2.2) = false → okP l = false) := fun h => okP_no (by rw [HN.out]; exact hlt) h
          have HYES : Hid ((formOk (pat l k) && kidsOk k (pat l k).2.2) = true → okToP l (k + 1) = true) := fun h => by simp only [okToP]; rw [HE.out, h]; rfl
          have HSN : Hid (∀ ra rc, RowIn lo hi w ra (pat l k).2.2 → Shs lo hi w (xs ++ [shv ra rc (pat l k)]) l (k + 1)) := fun ra rc h => HS.out.snoc h
          rw [← HZ.out] at hx hx0 HQK HNOK HYES HSN
          obtain ⟨x, y, ks⟩ := z
          obtain ⟨p0, p1, ra, rc, p2, hrow⟩ := hx
          dsimp only at p0 p1 p2 hrow HQK HNOK HYES HSN
          have hrow0 : RowIn lo hi w ra ks := by
            obtain ⟨_, _, ra', rc', p2', hrow'⟩ := hx0
            simp only [Option.some.injEq, Addr.mk.injEq, and_true] at e9
            obtain ⟨rfl, rfl⟩ := e9
            have := cell_below p2' HLW.out (lt_of_cell p2')
            dsimp only at this
            rw [this] at p2
            simp only [Option.some.injEq, Value.slice.injEq] at p2
            rw [← p2.1]; exact hrow'
          have HSN2 := HSN.out ra rc hrow0
          have HSNN : Hid (Shs lo hi w (xs ++ [shv ra rc (x, y, ks)]) l (k + 1)) := HSN2
          clear HSN HSN2 hx0 e9 hrow0
          obtain ⟨q, HKL⟩ : ∃ q, Hid (ks.length = q) := ⟨_, rfl⟩
          rw [HKL.out] at p2 HQK
          have hqk : q ≤ 1048576 := HQK.out
          obtain ⟨E, HEE⟩ : ∃ E, Hid (E = wr.heap.size) := ⟨_, rfl⟩
          obtain ⟨W, HW⟩ : ∃ W, Hid (W = wr.alloc (.cells #[.int .i64 x, .int .u8 y, .slice ra q rc] 120)) := ⟨_, rfl⟩
          have HWB : Hid (Below wr.heap.size wr W) := by rw [HW.out]; exact below1 _ _
          obtain ⟨q0, q1, q2⟩ : W.cell? ⟨E, 0, none⟩ = some (.int .i64 x) ∧ W.cell? ⟨E, 1, none⟩ = some (.int .u8 y) ∧ W.cell? ⟨E, 2, none⟩ = some (.slice ra q rc) := by rw [HW.out]; exact box_cells wr _ _ _ 120 _ HEE.out
          have HRW : Hid (RowIn lo hi W ra ks) := hrow.below HWB.out (Nat.le_trans HH.out HLW.out.size)
          have hszW : B + 1 ≤ W.heap.size := Nat.le_trans hszr HWB.out.size
          have HHW : Hid (hi ≤ W.heap.size) := Nat.le_trans HH.out (Nat.le_trans HLW.out.size HWB.out.size)
          clear hrow
          go_upto_region 7 with fail
          rw [← HEE.out, ← HW.out]
          clear p0 p1 p2
          go_wp2_with fail
          refine (shapeOf_any lo hi x y ra q rc ks W HRW.out HHW.out HKL.out hqk).mono ?_
          rintro e w1 ⟨v1, r1, rfl, HR1, HV1, HB1⟩
          have HLW1 : Hid (Below (B + 1) W0 w1) := HL.out.trans ((HWB.out.mono hszr).trans (HB1.out.mono hszW))
          have HO1 : Hid (w1.ownsRow (B + 1) 130 1 _ k xs) := owns_upto (M := wr.heap.size) HO.out (fun k hk => (HO.out.lt k hk).2) (fun k _ h => by rw [HB1.out.block k (Nat.lt_of_lt_of_le h HWB.out.size)]; exact HWB.out.block k h)
          have HRW1 : Hid (RowIn lo hi w1 ra ks) := HRW.out.below HB1.out HHW.out
          have hsz1 : B + 1 ≤ w1.heap.size := Nat.le_trans hszW HB1.out.size
          have HHW1 : Hid (hi ≤ w1.heap.size) := Nat.le_trans HHW.out HB1.out.size
          have HBE : Hid (Below w.heap.size w w1) := HBW.out.trans (HLW1.out.mono (by rw [HB.out]; omega))
          clear q0 q1 q2 HW HRW HHW HB1 HWB HO HL HLW HA
          rcases Bool.eq_false_or_eq_true r1 with hr | hr
          · subst hr
            have HF : Hid (formOk (x, y, ks) = true) := HR1.out.symm
            have HV : Hid (v1 = shv ra rc (x, y, ks)) := HV1.out rfl
            have hone : v1.oneCell' = true := by rw [HV.out]; exact shv_one _ _ _
            clear HR1 HV1
            go_upto_region 10 with fail
            go_cut [38, 39, 40] (fun s m z wc => ∃ a' c', s = .slice a' q c' ∧ m = .int .i64 q ∧ z = .int .i64 0 ∧ Hid (RowIn 0 wc.heap.size wc a' ks) ∧ Hid (Below w1.heap.size w1 wc))
            case first =>
              rcases formOk_cases HF.out with ⟨rfl, h3, h4⟩ | ⟨rfl, rfl, h4⟩ | ⟨rfl, rfl, h4⟩ | ⟨rfl, rfl, h4⟩ | ⟨rfl, rfl, h4⟩ | ⟨rfl, rfl, h4⟩
              · have hv : v1 = .iface 136 (.agg #[.int .u8 y]) := HV.out
                subst hv
                have HKN : Hid (ks = []) := List.length_eq_zero_iff.1 h4
                obtain rfl : q = 0 := by have := HKL.out; omega
                go_wp2_with fail
                refine (kidsStep_any y w1).mono ?_
                rintro e w2 ⟨rfl, HB2⟩
                go_wp2_with fail
                go_meet
                case rel => exact ⟨none, 0, rfl, rfl, rfl, .inl HKN.out, HB2⟩
              · have hv : v1 = .iface 141 (.agg #[.slice ra q rc]) := by rw [HV.out, ← HKL.out]; rfl
                subst hv
                go_wp2_with fail
                rw [types144]
                refine (kidsMany_any ra q rc w1).mono ?_
                rintro e w2 ⟨rfl, HB2⟩
                go_wp2_with fail
                go_meet
                case rel => exact ⟨ra, rc, rfl, rfl, rfl, (HRW1.out.below HB2.out HHW1.out).wide (Nat.zero_le _) (Nat.le_trans HHW1.out HB2.out.size), HB2⟩
              · have hv : v1 = .iface 143 (.agg #[.slice ra q rc]) := by rw [HV.out, ← HKL.out]; rfl
                subst hv
                go_wp2_with fail
                rw [types144]
                refine (kidsMany_any ra q rc w1).mono ?_
                rintro e w2 ⟨rfl, HB2⟩
                go_wp2_with fail
                go_meet
                case rel => exact ⟨ra, rc, rfl, rfl, rfl, (HRW1.out.below HB2.out HHW1.out).wide (Nat.zero_le _) (Nat.le_trans HHW1.out HB2.out.size), HB2⟩
              · obtain ⟨v, HVV⟩ : ∃ v, Hid (v = ks.getD 0 0) := ⟨_, rfl⟩
                have hv : v1 = .iface 148 (.agg #[.int .i64 v]) := by rw [HV.out, HVV.out]; rfl
                subst hv
                have HKN : Hid (ks = [v]) := one_row h4 HVV.out
                obtain rfl : q = 1 := by have := HKL.out; omega
                go_wp2_with fail
                rw [types149]
                refine (kidsOne_any v w1).mono ?_
                rintro e w2 ⟨g2, rfl, HG2, HB2⟩
                go_wp2_with fail
                go_meet
                case rel => exact ⟨some ⟨g2, 0, none⟩, 1, rfl, rfl, rfl, by rw [HKN.out]; exact HG2, HB2⟩
              · obtain ⟨v, HVV⟩ : ∃ v, Hid (v = ks.getD 0 0) := ⟨_, rfl⟩
                have hv : v1 = .iface 149 (.agg #[.int .i64 v]) := by rw [HV.out, HVV.out]; rfl
                subst hv
                have HKN : Hid (ks = [v]) := one_row h4 HVV.out
                obtain rfl : q = 1 := by have := HKL.out; omega
                go_wp2_with fail
                rw [types149]
                refine (kidsOne_any v w1).mono ?_
                rintro e w2 ⟨g2, rfl, HG2, HB2⟩
                go_wp2_with fail
                go_meet
                case rel => exact ⟨some ⟨g2, 0, none⟩, 1, rfl, rfl, rfl, by rw [HKN.out]; exact HG2, HB2⟩
              · obtain ⟨v, HVV⟩ : ∃ v, Hid (v = ks.getD 0 0) := ⟨_, rfl⟩
                have hv : v1 = .iface 150 (.agg #[.int .i64 v]) := by rw [HV.out, HVV.out]; rfl
                subst hv
                have HKN : Hid (ks = [v]) := one_row h4 HVV.out
                obtain rfl : q = 1 := by have := HKL.out; omega
                go_wp2_with fail
                rw [types149]
                refine (kidsOne_any v w1).mono ?_
                rintro e w2 ⟨g2, rfl, HG2, HB2⟩
                go_wp2_with fail
                go_meet
                case rel => exact ⟨some ⟨g2, 0, none⟩, 1, rfl, rfl, rfl, by rw [HKN.out]; exact HG2, HB2⟩
            case rest =>
              obtain ⟨a2, c2, rfl, rfl, rfl, HR2, HB2⟩ := hcut
              obtain ⟨t1, u1, hiv⟩ : ∃ t u, v1 = .iface t u := by rw [HV.out]; exact shv_if _ _ _
              subst hiv
              have HNO2 : Hid (kidsOk k ks = false → okP l = false) := fun h => HNOK.out (by rw [HF.out, h]; rfl)
              have HYES2 : Hid (kidsOk k ks = true → okToP l (k + 1) = true) := fun h => HYES.out (by rw [HF.out, h]; rfl)
              have HL2 : Hid (Below (B + 1) W0 wc) := HLW1.out.trans (HB2.out.mono hsz1)
              have HO2 : Hid (wc.ownsRow (B + 1) 130 1 _ k xs) := owns_upto (M := w1.heap.size) HO1.out (fun k hk => (HO1.out.lt k hk).2) (fun k _ h => HB2.out.block k h)
              have HBE2 : Hid (Below w.heap.size w wc) := HBE.out.trans (HB2.out.mono HBE.out.size)
              have hsz2 : B + 1 ≤ wc.heap.size := Nat.le_trans hsz1 HB2.out.size
              clear HNOK HYES HF HRW1 HHW1 HB2 HO1 HLW1 HBE
              go_wp2
              go_loop [40] (fun j => ∃ m : Nat, j = .int .i64 m ∧ m ≤ q ∧ Hid (∀ t, t < m → (decide (0 ≤ ks.getD t 0) && decide (ks.getD t 0 < (k : Int))) = true)) (fun j => q - (intOf j).toNat)
              case atStart => exact ⟨0, rfl, by omega, fun t ht => absurd ht (by omega)⟩
              case round =>
                obtain ⟨m, rfl, hm1, HP⟩ := hrel
                by_cases hmq : m < q
                · have hmq1 : (m : Int) < (q : Int) := by omega
                  have hmq0 : (0 : Int) ≤ (m : Int) := by omega
                  obtain ⟨b2, o2, rfl, hc⟩ := HR2.out.num (i := m) (by rw [HKL.out]; exact hmq)
                  obtain ⟨v, HV2⟩ : ∃ v, Hid (v = ks.getD m 0) := ⟨_, rfl⟩
                  rw [← HV2.out] at hc
                  by_cases hv0 : 0 ≤ v
                  · have d5 : decide (v < 0) = false := by simp; omega
                    by_cases hvk : v < (k : Int)
                    · have d6 : decide (v ≥ (k : Int)) = false := by simp; omega
                      go_wp2
                      go_roundw
                      case rel =>
                        refine ⟨m + 1, by go_num, by omega, fun t ht => ?_⟩
                        by_cases e : t = m
                        · subst e; rw [← HV2.out]; simp; omega
                        · exact HP.out t (by omega)
                      case measure => simp [intOf]; omega
                    · have d6 : decide (v ≥ (k : Int)) = true := by simp; omega
                      go_wp2
                      go_ret2
                      exact HNO.out _ (HNO2.out (kidsOk_no (j := m) (by rw [HKL.out]; exact hmq) (by rw [← HV2.out]; simp; omega))) HBE2.out
                  · have d5 : decide (v < 0) = true := by simp; omega
                    go_wp2
                    go_ret2
                    exact HNO.out _ (HNO2.out (kidsOk_no (j := m) (by rw [HKL.out]; exact hmq) (by rw [← HV2.out]; simp; omega))) HBE2.out
                · obtain rfl : m = q := by omega
                  have HY : Hid (okToP l (k + 1) = true) := HYES2.out (kidsOk_yes (fun j hj => HP.out j (by rw [← HKL.out]; exact hj)))
                  have hown := HO2.out.alloc (.cells #[.iface t1 u1] 130)
                  go_wp2_with (at_builtin; refine wpList_append_lies _ rfl (.tmp 52) (.tmp 54) 75 rfl (B + 1) 130 i0 .nilIface 1 16 Try.underlying75 hi0 hz0 hz1 hz2 rfl (by decide) _ k xs rfl hown ⟨wc.heap.size, 0, none⟩ 1 1 [.iface t1 u1] rfl rfl (cell_one_new' wc (.iface t1 u1) 130) (by simp [hone]) (by decide) (by unfold maxLen; omega) (by omega) (by simp; omega) _ rfl ?_)
                  intro g5 cap5 w6 hown5 hgrow5 _ _
                  have HL6 : Hid (Below (B + 1) W0 w6) := (HL2.out.alloc hsz2 _).grown hgrow5 (by simp; omega) (fun k hk => (HO2.out.lt k hk).1)
                  have HO6 : Hid (w6.ownsRow (B + 1) 130 1 (.slice (some ⟨g5, 0, none⟩) (k + 1) cap5) (k + 1) (xs ++ [.iface t1 u1])) := hown5
                  clear hown hown5 hgrow5
                  go_wp2
                  go_roundw
                  case rel => exact ⟨k + 1, xs ++ [.iface t1 u1], by go_num, by omega, HY, by rw [HV.out]; exact HSNN, HO6, HL6⟩
                  case measure => simp [intOf]; omega
          · subst hr
            go_wp2
            go_ret2
            exact HNO.out _ (HNOK.out (by rw [← HR1.out]; rfl)) HBE.out
        · obtain rfl : k = n := by omega
          have HFIN : Hid (∀ v, wr.ownsRow (B + 1) 130 1 v k xs → ShsPost lo hi w l (.returned (.tuple #[v, .bool true])) wr) := by
            intro v hv
            refine ⟨v, true, rfl, ?_, ?_, HLW⟩
            · show true = okP l
              unfold okP; rw [HN.out, HE.out]; simp; omega
            · intro _
              rw [HN.out]
              exact ⟨xs, HS.out, owns_wide hv (by rw [HB.out]; omega)⟩
          go_wp2
          go_ret2
          exact HFIN.out _ HO.out
    · have d2 : decide ((60 : Int) < (n : Int)) = true := by simp; omega
      have HF : Hid (okP l = false) := by show _ = _; unfold okP; rw [HN.out]; simp; omega
      go_enter Try.func38, Try.ntmps38
      go_wp2
      go_ret2
      exact HNO.out _ HF.out (below1 _ _)
  · have d1 : decide ((n : Int) < 1) = true := by simp; omega
    have HF : Hid (okP l = false) := by show _ = _; unfold okP; rw [HN.out]; simp; omega
    go_enter Try.func38, Try.ntmps38
    go_wp2
    go_ret2
    exact HNO.out _ HF.out (below1 _ _)

set_option maxHeartbeats 1000000 in
theorem pathOk_any (lo hi : Nat) (a : Option Addr) (n cap : Nat) (l : List Pc) (r : Bool) (w : World) (ha : PathIn lo hi w a l) (hh : hi ≤ w.heap.size) (hn : l.length = n) (hm : n ≤ 1048576) (hq : ∀ i, i < n → (pat l i).2.2.length ≤ 1048576) (hr : r = okP l) :
    Calls Try.prog 71 #[pv a n cap] w fun e w' => e = .returned (.bool r) ∧ Hid (Below w.heap.size w w') := by
  have HC : Hid (∀ w0, Below w.heap.size w w0 → Calls Try.prog 38 #[.agg #[.slice a n cap]] w0 fun e w' => ∃ v, e = .returned (.tuple #[v, .bool r]) ∧ Hid (Below w.heap.size w w')) := fun w0 h =>
    (shapesOf_any lo hi a n cap l w0 (ha.below h hh) (Nat.le_trans hh h.size) hn hm hq).mono fun _ _ ⟨v, r', h1, h2, _, h4⟩ => ⟨v, by rw [hr, ← h2.out]; exact h1, h.trans (h4.out.mono h.size)⟩
  clear ha hh hn hq hr
  unfold pv
  go_enter Try.func71, Try.ntmps71
  go_wp2_with fail
  refine (HC.out _ (below1 w _)).mono ?_
  rintro e w1 ⟨v, rfl, HB⟩
  go_wp2
  go_ret
  exact ⟨rfl, HB⟩
end Go.Proofs.Ytkcflhlipdnbnaa
