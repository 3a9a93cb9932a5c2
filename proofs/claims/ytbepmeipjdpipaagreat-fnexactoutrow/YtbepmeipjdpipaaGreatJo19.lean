import Derived.Test.YtbepmeipjdpipaaGreatJo05
import Derived.Handy
import Derived.Test.YtbepmeipjdpipaaGreatJo18
import Derived.Test.YtbepmeipjdpipaaGreatJo06
namespace Go.Proofs.YtbepmeipjdpipaaGreat
open Go.RowKit
def shv (ra : Option Addr) (rc : Nat) (x : Pc) : Value :=
 if x.1 = 1 then .iface 142 (.agg #[.int .u8 x.2.1])
 else if x.1 = 2 then .iface 147 (.agg #[.slice ra x.2.2.length rc])
 else if x.1 = 3 then .iface 149 (.agg #[.slice ra x.2.2.length rc])
 else if x.1 = 4 then .iface 154 (.agg #[.int .i64 (x.2.2.getD 0 0)])
 else if x.1 = 5 then .iface 155 (.agg #[.int .i64 (x.2.2.getD 0 0)])
 else .iface 156 (.agg #[.int .i64 (x.2.2.getD 0 0)])
def ShPost (w : World) (ra : Option Addr) (rc : Nat) (z : Pc) (e : Ending) (w' : World) : Prop :=
 ∃ (v : Value) (r : Bool), e = .returned (.tuple #[v, .bool r]) ∧ Hid (r = formOk z) ∧ Hid (r = true → v = shv ra rc z) ∧ Hid (Below w.heap.size w w')
set_option maxHeartbeats 8000000 in
set_option maxRecDepth 100000 in
theorem shapeOf_any (lo hi : Nat) (x y : Int) (ra : Option Addr) (q rc : Nat) (ks : List Int) (w : World) (ha : RowIn lo hi w ra ks) (hh : hi ≤ w.heap.size) (hn : ks.length = q) (hm : q ≤ 1048576) :
  Calls Tryz.prog 78 #[.agg #[.int .i64 x, .int .u8 y, .slice ra q rc]] w fun e w' => ShPost w ra rc (x, y, ks) e w' := by
 have HN : Hid (ks.length = q) := hn
 have HA : Hid (RowIn lo hi w ra ks) := ha
 have HH : Hid (hi ≤ w.heap.size) := hh
 clear ha hn hh
 obtain ⟨W, HW⟩ : ∃ W, Hid (W = w.alloc (.cells #[.int .i64 x, .int .u8 y, .slice ra q rc] 127)) := ⟨_, rfl⟩
 obtain ⟨B, HB⟩ : ∃ B, Hid (B = w.heap.size) := ⟨_, rfl⟩
 have HBW : Hid (Below w.heap.size w W) := by rw [HW.out]; exact below1 _ _
 obtain ⟨q0, q1, q2⟩ : W.cell? ⟨B, 0, none⟩ = some (.int .i64 x) ∧ W.cell? ⟨B, 1, none⟩ = some (.int .u8 y) ∧ W.cell? ⟨B, 2, none⟩ = some (.slice ra q rc) := by rw [HW.out]; exact box_cells w _ _ _ 127 _ HB.out
 have HRW : Hid (RowIn lo hi W ra ks) := HA.out.below HBW.out HH.out
 obtain ⟨ONE, HONE⟩ : ∃ b, Hid (b = (decide (y = 0) && decide (q = 1))) := ⟨_, rfl⟩
 obtain ⟨MANY, HMANY⟩ : ∃ b, Hid (b = (decide (y = 0) && decide (2 ≤ q))) := ⟨_, rfl⟩
 obtain ⟨LB, HL⟩ : ∃ b, Hid (b = isL y) := ⟨_, rfl⟩
 go_enter Tryz.func78, Tryz.ntmps78
 go_upto_region 1 with fail
 rw [← HB.out, ← HW.out]
 clear HW HA
 go_cut [4] (fun v wc => v = .bool ONE ∧ W = wc)
 case first =>
  by_cases hy : y = 0
  ·subst hy
   have hd : decide ((q : Int) = 1) = ONE := by rw [HONE.out]; simp; omega
   go_wp2_with fail
   go_meet
   case rel => exact ⟨by rw [← hd]; first | rfl | simp [beq_eq_decide], rfl⟩
  ·have hd : ONE = false := by rw [HONE.out]; simp [hy]
   subst hd
   go_wp2_with fail
   go_meet
   case rel => exact ⟨rfl, rfl⟩
 case rest =>
 obtain ⟨rfl, rfl⟩ := hcut
 go_upto_region 2 with fail
 go_cut [5] (fun v wc => v = .bool MANY ∧ W = wc)
 case first =>
  by_cases hy : y = 0
  ·subst hy
   have hd : decide ((q : Int) ≥ 2) = MANY := by rw [HMANY.out]; simp; omega
   go_wp2_with fail
   go_meet
   case rel => exact ⟨by rw [← hd], rfl⟩
  ·have hd : MANY = false := by rw [HMANY.out]; simp [hy]
   subst hd
   go_wp2_with fail
   go_meet
   case rel => exact ⟨rfl, rfl⟩
 case rest =>
 obtain ⟨rfl, rfl⟩ := hcut
 have HNO : Hid (formOk (x, y, ks) = false → ShPost w ra rc (x, y, ks) (.returned (.tuple #[.nilIface, .bool false])) W) := by
  intro hff
  refine ⟨_, false, rfl, hff.symm, ?_, HBW⟩
  intro h; cases h
 have HYES : Hid (∀ v, formOk (x, y, ks) = true → shv ra rc (x, y, ks) = v → ShPost w ra rc (x, y, ks) (.returned (.tuple #[v, .bool true])) W) := by
  intro v hff hv
  exact ⟨_, true, rfl, hff.symm, fun _ => hv.symm, HBW⟩
 clear HBW
 by_cases h1 : x = 1
 ·subst h1
  have HF : Hid (formOk (1, y, ks) = (LB && decide (q = 0))) := by show _ = _; rw [HL.out, ← HN.out]; rfl
  have HS : Hid (shv ra rc (1, y, ks) = .iface 142 (.agg #[.int .u8 y])) := rfl
  rcases Bool.eq_false_or_eq_true LB with hb | hb
  ·subst hb
   by_cases hq : q = 0
   ·subst hq
    go_wp2_with (go_at_call 88; refine (isLabel_any y true _ HL.out).mono ?_; rintro e w1 ⟨rfl, rfl⟩)
    go_ret2
    exact HYES.out _ HF.out HS.out
   ·have d1 : ¬ (q : Int) = 0 := by omega
    go_wp2_with (go_at_call 88; refine (isLabel_any y true _ HL.out).mono ?_; rintro e w1 ⟨rfl, rfl⟩)
    go_ret2
    exact HNO.out (by rw [HF.out]; simp [hq])
  ·subst hb
   go_wp2_with (go_at_call 88; refine (isLabel_any y false _ HL.out).mono ?_; rintro e w1 ⟨rfl, rfl⟩)
   go_ret2
   exact HNO.out (by rw [HF.out]; simp)
 by_cases h2 : x = 2
 ·subst h2
  have HF : Hid (formOk (2, y, ks) = MANY) := by show _ = _; rw [HMANY.out, ← HN.out]; rfl
  have HS : Hid (shv ra rc (2, y, ks) = .iface 147 (.agg #[.slice ra q rc])) := by rw [← HN.out]; rfl
  rcases Bool.eq_false_or_eq_true MANY with hb | hb
  ·subst hb
   go_wp2
   go_ret2
   exact HYES.out _ HF.out HS.out
  ·subst hb
   go_wp2
   go_ret2
   exact HNO.out HF.out
 by_cases h3 : x = 3
 ·subst h3
  have HF : Hid (formOk (3, y, ks) = MANY) := by show _ = _; rw [HMANY.out, ← HN.out]; rfl
  have HS : Hid (shv ra rc (3, y, ks) = .iface 149 (.agg #[.slice ra q rc])) := by rw [← HN.out]; rfl
  rcases Bool.eq_false_or_eq_true MANY with hb | hb
  ·subst hb
   go_wp2
   go_ret2
   exact HYES.out _ HF.out HS.out
  ·subst hb
   go_wp2
   go_ret2
   exact HNO.out HF.out
 by_cases h4 : x = 4
 ·subst h4
  have HF : Hid (formOk (4, y, ks) = ONE) := by show _ = _; rw [HONE.out, ← HN.out]; rfl
  rcases Bool.eq_false_or_eq_true ONE with hb | hb
  ·subst hb
   have hq1 : q = 1 := by
    have := HONE.out.symm
    rw [Bool.and_eq_true, decide_eq_true_eq, decide_eq_true_eq] at this
    exact this.2
   subst hq1
   obtain ⟨b, o, rfl, hc⟩ := HRW.out.num (i := 0) (by rw [HN.out]; omega)
   obtain ⟨v, HV⟩ : ∃ v, Hid (v = ks.getD 0 0) := ⟨_, rfl⟩
   have HS : Hid (shv (some ⟨b, o, none⟩) rc (4, y, ks) = .iface 154 (.agg #[.int .i64 v])) := by rw [HV.out]; rfl
   rw [← HV.out, Nat.add_zero] at hc
   go_wp2
   go_ret2
   exact HYES.out _ HF.out HS.out
  ·subst hb
   go_wp2
   go_ret2
   exact HNO.out HF.out
 by_cases h5 : x = 5
 ·subst h5
  have HF : Hid (formOk (5, y, ks) = ONE) := by show _ = _; rw [HONE.out, ← HN.out]; rfl
  rcases Bool.eq_false_or_eq_true ONE with hb | hb
  ·subst hb
   have hq1 : q = 1 := by
    have := HONE.out.symm
    rw [Bool.and_eq_true, decide_eq_true_eq, decide_eq_true_eq] at this
    exact this.2
   subst hq1
   obtain ⟨b, o, rfl, hc⟩ := HRW.out.num (i := 0) (by rw [HN.out]; omega)
   obtain ⟨v, HV⟩ : ∃ v, Hid (v = ks.getD 0 0) := ⟨_, rfl⟩
   have HS : Hid (shv (some ⟨b, o, none⟩) rc (5, y, ks) = .iface 155 (.agg #[.int .i64 v])) := by rw [HV.out]; rfl
   rw [← HV.out, Nat.add_zero] at hc
   go_wp2
   go_ret2
   exact HYES.out _ HF.out HS.out
  ·subst hb
   go_wp2
   go_ret2
   exact HNO.out HF.out
 by_cases h6 : x = 6
 ·subst h6
  have HF : Hid (formOk (6, y, ks) = ONE) := by show _ = _; rw [HONE.out, ← HN.out]; rfl
  rcases Bool.eq_false_or_eq_true ONE with hb | hb
  ·subst hb
   have hq1 : q = 1 := by
    have := HONE.out.symm
    rw [Bool.and_eq_true, decide_eq_true_eq, decide_eq_true_eq] at this
    exact this.2
   subst hq1
   obtain ⟨b, o, rfl, hc⟩ := HRW.out.num (i := 0) (by rw [HN.out]; omega)
   obtain ⟨v, HV⟩ : ∃ v, Hid (v = ks.getD 0 0) := ⟨_, rfl⟩
   have HS : Hid (shv (some ⟨b, o, none⟩) rc (6, y, ks) = .iface 156 (.agg #[.int .i64 v])) := by rw [HV.out]; rfl
   rw [← HV.out, Nat.add_zero] at hc
   go_wp2
   go_ret2
   exact HYES.out _ HF.out HS.out
  ·subst hb
   go_wp2
   go_ret2
   exact HNO.out HF.out
 have HF : Hid (formOk (x, y, ks) = false) := by show _ = _; unfold formOk; simp [h1, h2, h3, h4, h5, h6]
 go_wp2
 go_ret2
 exact HNO.out HF.out
end Go.Proofs.YtbepmeipjdpipaaGreat

namespace Go.Proofs.YtbepmeipjdpipaaGreat
open Go.RowKit
def Shs (lo hi : Nat) (w : World) (xs : List Value) (l : List Pc) (k : Nat) : Prop :=
 xs.length = k ∧ ∀ i, i < k → ∃ ra rc, xs.getD i .nilIface = shv ra rc (pat l i) ∧ RowIn lo hi w ra (pat l i).2.2
theorem Shs.snoc {lo hi k : Nat} {w : World} {xs : List Value} {l : List Pc} {ra : Option Addr} {rc : Nat} (h : Shs lo hi w xs l k) (hr : RowIn lo hi w ra (pat l k).2.2) : Shs lo hi w (xs ++ [shv ra rc (pat l k)]) l (k + 1) := by
 obtain ⟨h1, h2⟩ := h
 refine ⟨by simp [h1], fun i hi => ?_⟩
 by_cases e : i < k
 ·obtain ⟨a, c, h3, h4⟩ := h2 i e
  refine ⟨a, c, ?_, h4⟩
  rw [← h3]
  simp [List.getD, List.getElem?_append_left (show i < xs.length by omega)]
 ·obtain rfl : i = k := by omega
  refine ⟨ra, rc, ?_, hr⟩
  simp [List.getD, ← h1]
theorem Shs.below {lo hi B k : Nat} {w w' : World} {xs : List Value} {l : List Pc} (h : Shs lo hi w xs l k) (hb : Below B w w') (hB : hi ≤ B) : Shs lo hi w' xs l k :=
 ⟨h.1, fun i hi => by obtain ⟨a, c, h3, h4⟩ := h.2 i hi; exact ⟨a, c, h3, h4.below hb hB⟩⟩
def ShsPost (lo hi : Nat) (w : World) (l : List Pc) (e : Ending) (w' : World) : Prop :=
 ∃ (v : Value) (r : Bool), e = .returned (.tuple #[v, .bool r]) ∧ Hid (r = okP l) ∧ Hid (r = true → ∃ xs : List Value, Shs lo hi w xs l l.length ∧ w'.ownsRow w.heap.size 136 1 v l.length xs) ∧ Hid (Below w.heap.size w w')
theorem shv_one (ra : Option Addr) (rc : Nat) (x : Pc) : (shv ra rc x).oneCell' = true := by
 unfold shv
 split
 ·rfl
 split
 ·rfl
 split
 ·rfl
 split
 ·rfl
 split
 ·rfl
 ·rfl
theorem shv_if (ra : Option Addr) (rc : Nat) (x : Pc) : ∃ t u, shv ra rc x = .iface t u := by
 unfold shv
 split
 ·exact ⟨_, _, rfl⟩
 split
 ·exact ⟨_, _, rfl⟩
 split
 ·exact ⟨_, _, rfl⟩
 split
 ·exact ⟨_, _, rfl⟩
 split
 ·exact ⟨_, _, rfl⟩
 ·exact ⟨_, _, rfl⟩
theorem Tryz.info136 : (Tryz.prog.info? 136).map (fun i => (i.zero, i.size, i.bytes)) = some (some .nilIface, 1, 16) := by kernel_rfl
theorem owns_wide {B B' e s n : Nat} {w : World} {v : Value} {xs : List Value} (h : w.ownsRow B e s v n xs) (hB : B' ≤ B) : w.ownsRow B' e s v n xs := by
 rcases h with ⟨h1, h2⟩
 refine ⟨h1, ?_⟩
 rcases h2 with h2 | ⟨g, cap, cur, e1, e2, e3⟩
 ·exact .inl h2
 ·exact .inr ⟨g, cap, cur, e1, by omega, e3⟩
set_option maxHeartbeats 1000000 in
theorem kidsStep_any (y : Int) (w : World) : Calls Tryz.prog 135 #[.agg #[.int .u8 y]] w fun e w' => e = .returned (.slice none 0 0) ∧ Hid (Below w.heap.size w w') := by
 go_enter Tryz.func135, Tryz.ntmps135
 go_wp2
 go_ret
 exact ⟨rfl, below1 _ _⟩
set_option maxHeartbeats 1000000 in
theorem kidsMany_any (ra : Option Addr) (q rc : Nat) (w : World) : Calls Tryz.prog 136 #[.agg #[.slice ra q rc]] w fun e w' => e = .returned (.slice ra q rc) ∧ Hid (Below w.heap.size w w') := by
 go_enter Tryz.func136, Tryz.ntmps136
 go_wp2
 go_ret
 exact ⟨rfl, below1 _ _⟩
set_option maxHeartbeats 1000000 in
theorem kidsOne_any (v : Int) (w : World) : Calls Tryz.prog 137 #[.agg #[.int .i64 v]] w fun e w' => ∃ g : Nat, e = .returned (.slice (some ⟨g, 0, none⟩) 1 1) ∧ Hid (RowIn 0 w'.heap.size w' (some ⟨g, 0, none⟩) [v]) ∧ Hid (Below w.heap.size w w') := by
 go_enter Tryz.func137, Tryz.ntmps137
 go_wp2
 go_ret
 refine ⟨w.heap.size + 1, rfl, ?_, below2 _ _ _⟩
 refine .inr ⟨w.heap.size + 1, 0, rfl, Nat.zero_le _, by simp, fun i hi => ?_⟩
 obtain rfl : i = 0 := by simpa using hi
 simp
theorem types144 : (Tryz.prog.types[145]'(by decide +kernel)).size = 1 := by kernel_rfl
theorem types149 : (Tryz.prog.types[152]'(by decide +kernel)).size = 1 := by kernel_rfl
theorem one_row {ks : List Int} {v : Int} (h : ks.length = 1) (hv : v = ks.getD 0 0) : ks = [v] := by
 match ks, h with
 | [x], _ => simp at hv; rw [hv]
set_option maxHeartbeats 8000000 in
set_option maxRecDepth 100000 in
theorem shapesOf_any (lo hi : Nat) (a : Option Addr) (n cap : Nat) (l : List Pc) (w : World) (ha : PathIn lo hi w a l) (hh : hi ≤ w.heap.size) (hn : l.length = n) (hm : n ≤ 1048576) (hq : ∀ i, i < n → (pat l i).2.2.length ≤ 1048576) :
  Calls Tryz.prog 64 #[pv a n cap] w fun e w' => ShsPost lo hi w l e w' := by
 have HN : Hid (l.length = n) := hn
 have HA : Hid (PathIn lo hi w a l) := ha
 have HH : Hid (hi ≤ w.heap.size) := hh
 have HQ : Hid (∀ i, i < n → (pat l i).2.2.length ≤ 1048576) := hq
 obtain ⟨i0, hi0, hz0, hz1, hz2⟩ := info_parts Tryz.info136
 clear ha hh hn hq
 have HNO : Hid (∀ w', okP l = false → Below w.heap.size w w' → ShsPost lo hi w l (.returned (.tuple #[.slice none 0 0, .bool false])) w') := by
  intro w' h1 h2
  refine ⟨_, false, rfl, h1.symm, ?_, h2⟩
  intro h; cases h
 obtain ⟨B, HB⟩ : ∃ B, Hid (B = w.heap.size) := ⟨_, rfl⟩
 unfold pv
 by_cases h1 : 1 ≤ n
 ·have d1 : decide ((n : Int) < 1) = false := by simp; omega
  by_cases h2 : n ≤ 60
  ·have d2 : decide ((60 : Int) < (n : Int)) = false := by simp; omega
   obtain ⟨W0, HW0⟩ : ∃ W0, Hid (W0 = w.alloc (.cells #[.slice a n cap] 73)) := ⟨_, rfl⟩
   have HK0 : Hid (Blk W0 B 1 (fun _ => .slice a n cap)) := by rw [HW0.out]; exact blk_one w B HB.out _ _
   have HBW : Hid (Below w.heap.size w W0) := by rw [HW0.out]; exact below1 w _
   have HSW : Hid (W0.heap.size = B + 1) := by rw [HW0.out, HB.out]; show _ = _; simp
   go_enter Tryz.func64, Tryz.ntmps64
   go_wp2
   rw [← HB.out, ← HW0.out]
   clear HW0
   go_loopw [25, 4] (fun i v wr => ∃ (k : Nat) (xs : List Value), i = .int .i64 k ∧ k ≤ n ∧ Hid (okToP l k = true) ∧ Hid (Shs lo hi w xs l k) ∧ Hid (wr.ownsRow (B + 1) 136 1 v k xs) ∧ Hid (Below (B + 1) W0 wr)) (fun i _ _ => n - (intOf i).toNat)
   case atStart =>
    refine ⟨0, [], rfl, by omega, rfl, ⟨rfl, fun i hi => absurd hi (by omega)⟩, ?_, ?_⟩
    ·show World.ownsRow _ _ _ _ _ _ []
     have := World.ownsRow_made W0 (base := B + 1) (e := 136) (size := 1) #[] 0 (by rw [HSW.out]; exact Nat.le_refl _) (Nat.zero_le _) rfl
     simpa [HSW.out] using this
    ·exact (Below.refl _ _).alloc (by rw [HSW.out]; exact Nat.le_refl _) _
   case round =>
    obtain ⟨k, xs, rfl, hk, HE, HS, HO, HL⟩ := hrel
    have hszr : B + 1 ≤ wr.heap.size := by have := HL.out.size; have := HSW.out; omega
    have HLW : Hid (Below w.heap.size w wr) := HBW.out.trans (HL.out.mono (by rw [HB.out]; omega))
    by_cases hlt : k < n
    ·have hlt1 : (k : Int) < (n : Int) := by omega
     have hlt0 : (0 : Int) ≤ (k : Int) := by omega
     obtain ⟨b, o, rfl, _, _, hx⟩ := (HA.out.below HLW.out HH.out).piece (k := k) (by rw [HN.out]; exact hlt)
     obtain ⟨b9, o9, e9, _, _, hx0⟩ := HA.out.piece (k := k) (by rw [HN.out]; exact hlt)
     obtain ⟨z, HZ⟩ : ∃ z : Pc, Hid (z = pat l k) := ⟨_, rfl⟩
     have HQK : Hid ((pat l k).2.2.length ≤ 1048576) := HQ.out k hlt
     have HNOK : Hid ((formOk (pat l k) && kidsOk k (pat l k).2.2) = false → okP l = false) := fun h => okP_no (by rw [HN.out]; exact hlt) h
     have HYES : Hid ((formOk (pat l k) && kidsOk k (pat l k).2.2) = true → okToP l (k + 1) = true) := fun h => by simp only [okToP]; rw [HE.out, h]; rfl
     have HSN : Hid (∀ ra rc, RowIn lo hi w ra (pat l k).2.2 → Shs lo hi w (xs ++ [shv ra rc (pat l k)]) l (k + 1)) := fun ra rc h => HS.out.snoc h
     rw [← HZ.out] at hx hx0 HQK HNOK HYES HSN
     obtain ⟨x, y, ks⟩ := z
     obtain ⟨p0, p1, ra, rc, p2, hrow⟩ := hx
     dsimp only at p0 p1 p2 hrow HQK HNOK HYES HSN
     have hrow0 : RowIn lo hi w ra ks := by
      obtain ⟨_, _, ra', rc', p2', hrow'⟩ := hx0
      simp only [Option.some.injEq, Addr.mk.injEq, and_true] at e9
      obtain ⟨rfl, rfl⟩ := e9
      have := cell_below p2' HLW.out (lt_of_cell p2')
      dsimp only at this
      rw [this] at p2
      simp only [Option.some.injEq, Value.slice.injEq] at p2
      rw [← p2.1]; exact hrow'
     have HSN2 := HSN.out ra rc hrow0
     have HSNN : Hid (Shs lo hi w (xs ++ [shv ra rc (x, y, ks)]) l (k + 1)) := HSN2
     clear HSN HSN2 hx0 e9 hrow0
     obtain ⟨q, HKL⟩ : ∃ q, Hid (ks.length = q) := ⟨_, rfl⟩
     rw [HKL.out] at p2 HQK
     have hqk : q ≤ 1048576 := HQK.out
     obtain ⟨E, HEE⟩ : ∃ E, Hid (E = wr.heap.size) := ⟨_, rfl⟩
     obtain ⟨W, HW⟩ : ∃ W, Hid (W = wr.alloc (.cells #[.int .i64 x, .int .u8 y, .slice ra q rc] 127)) := ⟨_, rfl⟩
     have HWB : Hid (Below wr.heap.size wr W) := by rw [HW.out]; exact below1 _ _
     obtain ⟨q0, q1, q2⟩ : W.cell? ⟨E, 0, none⟩ = some (.int .i64 x) ∧ W.cell? ⟨E, 1, none⟩ = some (.int .u8 y) ∧ W.cell? ⟨E, 2, none⟩ = some (.slice ra q rc) := by rw [HW.out]; exact box_cells wr _ _ _ 127 _ HEE.out
     have HRW : Hid (RowIn lo hi W ra ks) := hrow.below HWB.out (Nat.le_trans HH.out HLW.out.size)
     have hszW : B + 1 ≤ W.heap.size := Nat.le_trans hszr HWB.out.size
     have HHW : Hid (hi ≤ W.heap.size) := Nat.le_trans HH.out (Nat.le_trans HLW.out.size HWB.out.size)
     clear hrow
     go_upto_region 7 with fail
     rw [← HEE.out, ← HW.out]
     clear p0 p1 p2
     go_wp2_with fail
     refine (shapeOf_any lo hi x y ra q rc ks W HRW.out HHW.out HKL.out hqk).mono ?_
     rintro e w1 ⟨v1, r1, rfl, HR1, HV1, HB1⟩
     have HLW1 : Hid (Below (B + 1) W0 w1) := HL.out.trans ((HWB.out.mono hszr).trans (HB1.out.mono hszW))
     have HO1 : Hid (w1.ownsRow (B + 1) 136 1 _ k xs) := owns_upto (M := wr.heap.size) HO.out (fun k hk => (HO.out.lt k hk).2) (fun k _ h => by rw [HB1.out.block k (Nat.lt_of_lt_of_le h HWB.out.size)]; exact HWB.out.block k h)
     have HRW1 : Hid (RowIn lo hi w1 ra ks) := HRW.out.below HB1.out HHW.out
     have hsz1 : B + 1 ≤ w1.heap.size := Nat.le_trans hszW HB1.out.size
     have HHW1 : Hid (hi ≤ w1.heap.size) := Nat.le_trans HHW.out HB1.out.size
     have HBE : Hid (Below w.heap.size w w1) := HBW.out.trans (HLW1.out.mono (by rw [HB.out]; omega))
     clear q0 q1 q2 HW HRW HHW HB1 HWB HO HL HLW HA
     rcases Bool.eq_false_or_eq_true r1 with hr | hr
     ·subst hr
      have HF : Hid (formOk (x, y, ks) = true) := HR1.out.symm
      have HV : Hid (v1 = shv ra rc (x, y, ks)) := HV1.out rfl
      have hone : v1.oneCell' = true := by rw [HV.out]; exact shv_one _ _ _
      clear HR1 HV1
      go_upto_region 10 with fail
      go_cut [38, 39, 40] (fun s m z wc => ∃ a' c', s = .slice a' q c' ∧ m = .int .i64 q ∧ z = .int .i64 0 ∧ Hid (RowIn 0 wc.heap.size wc a' ks) ∧ Hid (Below w1.heap.size w1 wc))
      case first =>
       rcases formOk_cases HF.out with ⟨rfl, h3, h4⟩ | ⟨rfl, rfl, h4⟩ | ⟨rfl, rfl, h4⟩ | ⟨rfl, rfl, h4⟩ | ⟨rfl, rfl, h4⟩ | ⟨rfl, rfl, h4⟩
       ·have hv : v1 = .iface 142 (.agg #[.int .u8 y]) := HV.out
        subst hv
        have HKN : Hid (ks = []) := List.length_eq_zero_iff.1 h4
        obtain rfl : q = 0 := by have := HKL.out; omega
        go_wp2_with fail
        refine (kidsStep_any y w1).mono ?_
        rintro e w2 ⟨rfl, HB2⟩
        go_wp2_with fail
        go_meet
        case rel => exact ⟨none, 0, rfl, rfl, rfl, .inl HKN.out, HB2⟩
       ·have hv : v1 = .iface 147 (.agg #[.slice ra q rc]) := by rw [HV.out, ← HKL.out]; rfl
        subst hv
        go_wp2_with fail
        rw [types144]
        refine (kidsMany_any ra q rc w1).mono ?_
        rintro e w2 ⟨rfl, HB2⟩
        go_wp2_with fail
        go_meet
        case rel => exact ⟨ra, rc, rfl, rfl, rfl, (HRW1.out.below HB2.out HHW1.out).wide (Nat.zero_le _) (Nat.le_trans HHW1.out HB2.out.size), HB2⟩
       ·have hv : v1 = .iface 149 (.agg #[.slice ra q rc]) := by rw [HV.out, ← HKL.out]; rfl
        subst hv
        go_wp2_with fail
        rw [types144]
        refine (kidsMany_any ra q rc w1).mono ?_
        rintro e w2 ⟨rfl, HB2⟩
        go_wp2_with fail
        go_meet
        case rel => exact ⟨ra, rc, rfl, rfl, rfl, (HRW1.out.below HB2.out HHW1.out).wide (Nat.zero_le _) (Nat.le_trans HHW1.out HB2.out.size), HB2⟩
       ·obtain ⟨v, HVV⟩ : ∃ v, Hid (v = ks.getD 0 0) := ⟨_, rfl⟩
        have hv : v1 = .iface 154 (.agg #[.int .i64 v]) := by rw [HV.out, HVV.out]; rfl
        subst hv
        have HKN : Hid (ks = [v]) := one_row h4 HVV.out
        obtain rfl : q = 1 := by have := HKL.out; omega
        go_wp2_with fail
        rw [types149]
        refine (kidsOne_any v w1).mono ?_
        rintro e w2 ⟨g2, rfl, HG2, HB2⟩
        go_wp2_with fail
        go_meet
        case rel => exact ⟨some ⟨g2, 0, none⟩, 1, rfl, rfl, rfl, by rw [HKN.out]; exact HG2, HB2⟩
       ·obtain ⟨v, HVV⟩ : ∃ v, Hid (v = ks.getD 0 0) := ⟨_, rfl⟩
        have hv : v1 = .iface 155 (.agg #[.int .i64 v]) := by rw [HV.out, HVV.out]; rfl
        subst hv
        have HKN : Hid (ks = [v]) := one_row h4 HVV.out
        obtain rfl : q = 1 := by have := HKL.out; omega
        go_wp2_with fail
        rw [types149]
        refine (kidsOne_any v w1).mono ?_
        rintro e w2 ⟨g2, rfl, HG2, HB2⟩
        go_wp2_with fail
        go_meet
        case rel => exact ⟨some ⟨g2, 0, none⟩, 1, rfl, rfl, rfl, by rw [HKN.out]; exact HG2, HB2⟩
       ·obtain ⟨v, HVV⟩ : ∃ v, Hid (v = ks.getD 0 0) := ⟨_, rfl⟩
        have hv : v1 = .iface 156 (.agg #[.int .i64 v]) := by rw [HV.out, HVV.out]; rfl
        subst hv
        have HKN : Hid (ks = [v]) := one_row h4 HVV.out
        obtain rfl : q = 1 := by have := HKL.out; omega
        go_wp2_with fail
        rw [types149]
        refine (kidsOne_any v w1).mono ?_
        rintro e w2 ⟨g2, rfl, HG2, HB2⟩
        go_wp2_with fail
        go_meet
        case rel => exact ⟨some ⟨g2, 0, none⟩, 1, rfl, rfl, rfl, by rw [HKN.out]; exact HG2, HB2⟩
      case rest =>
       obtain ⟨a2, c2, rfl, rfl, rfl, HR2, HB2⟩ := hcut
       obtain ⟨t1, u1, hiv⟩ : ∃ t u, v1 = .iface t u := by rw [HV.out]; exact shv_if _ _ _
       subst hiv
       have HNO2 : Hid (kidsOk k ks = false → okP l = false) := fun h => HNOK.out (by rw [HF.out, h]; rfl)
       have HYES2 : Hid (kidsOk k ks = true → okToP l (k + 1) = true) := fun h => HYES.out (by rw [HF.out, h]; rfl)
       have HL2 : Hid (Below (B + 1) W0 wc) := HLW1.out.trans (HB2.out.mono hsz1)
       have HO2 : Hid (wc.ownsRow (B + 1) 136 1 _ k xs) := owns_upto (M := w1.heap.size) HO1.out (fun k hk => (HO1.out.lt k hk).2) (fun k _ h => HB2.out.block k h)
       have HBE2 : Hid (Below w.heap.size w wc) := HBE.out.trans (HB2.out.mono HBE.out.size)
       have hsz2 : B + 1 ≤ wc.heap.size := Nat.le_trans hsz1 HB2.out.size
       clear HNOK HYES HF HRW1 HHW1 HB2 HO1 HLW1 HBE
       go_wp2
       go_loop [40] (fun j => ∃ m : Nat, j = .int .i64 m ∧ m ≤ q ∧ Hid (∀ t, t < m → (decide (0 ≤ ks.getD t 0) && decide (ks.getD t 0 < (k : Int))) = true)) (fun j => q - (intOf j).toNat)
       case atStart => exact ⟨0, rfl, by omega, fun t ht => absurd ht (by omega)⟩
       case round =>
        obtain ⟨m, rfl, hm1, HP⟩ := hrel
        by_cases hmq : m < q
        ·have hmq1 : (m : Int) < (q : Int) := by omega
         have hmq0 : (0 : Int) ≤ (m : Int) := by omega
         obtain ⟨b2, o2, rfl, hc⟩ := HR2.out.num (i := m) (by rw [HKL.out]; exact hmq)
         obtain ⟨v, HV2⟩ : ∃ v, Hid (v = ks.getD m 0) := ⟨_, rfl⟩
         rw [← HV2.out] at hc
         by_cases hv0 : 0 ≤ v
         ·have d5 : decide (v < 0) = false := by simp; omega
          by_cases hvk : v < (k : Int)
          ·have d6 : decide (v ≥ (k : Int)) = false := by simp; omega
           go_wp2
           go_roundw
           case rel =>
            refine ⟨m + 1, by go_num, by omega, fun t ht => ?_⟩
            by_cases e : t = m
            ·subst e; rw [← HV2.out]; simp; omega
            ·exact HP.out t (by omega)
           case measure => simp [intOf]; omega
          ·have d6 : decide (v ≥ (k : Int)) = true := by simp; omega
           go_wp2
           go_ret2
           exact HNO.out _ (HNO2.out (kidsOk_no (j := m) (by rw [HKL.out]; exact hmq) (by rw [← HV2.out]; simp; omega))) HBE2.out
         ·have d5 : decide (v < 0) = true := by simp; omega
          go_wp2
          go_ret2
          exact HNO.out _ (HNO2.out (kidsOk_no (j := m) (by rw [HKL.out]; exact hmq) (by rw [← HV2.out]; simp; omega))) HBE2.out
        ·obtain rfl : m = q := by omega
         have HY : Hid (okToP l (k + 1) = true) := HYES2.out (kidsOk_yes (fun j hj => HP.out j (by rw [← HKL.out]; exact hj)))
         have hown := HO2.out.alloc (.cells #[.iface t1 u1] 136)
         go_wp2_with (at_builtin; refine wpList_append_lies _ rfl (.tmp 52) (.tmp 54) 111 rfl (B + 1) 136 i0 .nilIface 1 16 Tryz.underlying111 hi0 hz0 hz1 hz2 rfl (by decide) _ k xs rfl hown ⟨wc.heap.size, 0, none⟩ 1 1 [.iface t1 u1] rfl rfl (cell_one_new' wc (.iface t1 u1) 136) (by simp [hone]) (by decide) (by unfold maxLen; omega) (by omega) (by simp; omega) _ rfl ?_)
         intro g5 cap5 w6 hown5 hgrow5 _ _
         have HL6 : Hid (Below (B + 1) W0 w6) := (HL2.out.alloc hsz2 _).grown hgrow5 (by simp; omega) (fun k hk => (HO2.out.lt k hk).1)
         have HO6 : Hid (w6.ownsRow (B + 1) 136 1 (.slice (some ⟨g5, 0, none⟩) (k + 1) cap5) (k + 1) (xs ++ [.iface t1 u1])) := hown5
         clear hown hown5 hgrow5
         go_wp2
         go_roundw
         case rel => exact ⟨k + 1, xs ++ [.iface t1 u1], by go_num, by omega, HY, by rw [HV.out]; exact HSNN, HO6, HL6⟩
         case measure => simp [intOf]; omega
     ·subst hr
      go_wp2
      go_ret2
      exact HNO.out _ (HNOK.out (by rw [← HR1.out]; rfl)) HBE.out
    ·obtain rfl : k = n := by omega
     have HFIN : Hid (∀ v, wr.ownsRow (B + 1) 136 1 v k xs → ShsPost lo hi w l (.returned (.tuple #[v, .bool true])) wr) := by
      intro v hv
      refine ⟨v, true, rfl, ?_, ?_, HLW⟩
      ·show true = okP l
       unfold okP; rw [HN.out, HE.out]; simp; omega
      ·intro _
       rw [HN.out]
       exact ⟨xs, HS.out, owns_wide hv (by rw [HB.out]; omega)⟩
     go_wp2
     go_ret2
     exact HFIN.out _ HO.out
  ·have d2 : decide ((60 : Int) < (n : Int)) = true := by simp; omega
   have HF : Hid (okP l = false) := by show _ = _; unfold okP; rw [HN.out]; simp; omega
   go_enter Tryz.func64, Tryz.ntmps64
   go_wp2
   go_ret2
   exact HNO.out _ HF.out (below1 _ _)
 ·have d1 : decide ((n : Int) < 1) = true := by simp; omega
  have HF : Hid (okP l = false) := by show _ = _; unfold okP; rw [HN.out]; simp; omega
  go_enter Tryz.func64, Tryz.ntmps64
  go_wp2
  go_ret2
  exact HNO.out _ HF.out (below1 _ _)
set_option maxHeartbeats 1000000 in
theorem pathOk_any (lo hi : Nat) (a : Option Addr) (n cap : Nat) (l : List Pc) (r : Bool) (w : World) (ha : PathIn lo hi w a l) (hh : hi ≤ w.heap.size) (hn : l.length = n) (hm : n ≤ 1048576) (hq : ∀ i, i < n → (pat l i).2.2.length ≤ 1048576) (hr : r = okP l) :
  Calls Tryz.prog 62 #[pv a n cap] w fun e w' => e = .returned (.bool r) ∧ Hid (Below w.heap.size w w') := by
 have HC : Hid (∀ w0, Below w.heap.size w w0 → Calls Tryz.prog 64 #[.agg #[.slice a n cap]] w0 fun e w' => ∃ v, e = .returned (.tuple #[v, .bool r]) ∧ Hid (Below w.heap.size w w')) := fun w0 h =>
  (shapesOf_any lo hi a n cap l w0 (ha.below h hh) (Nat.le_trans hh h.size) hn hm hq).mono fun _ _ ⟨v, r', h1, h2, _, h4⟩ => ⟨v, by rw [hr, ← h2.out]; exact h1, h.trans (h4.out.mono h.size)⟩
 clear ha hh hn hq hr
 unfold pv
 go_enter Tryz.func62, Tryz.ntmps62
 go_wp2_with fail
 refine (HC.out _ (below1 w _)).mono ?_
 rintro e w1 ⟨v, rfl, HB⟩
 go_wp2
 go_ret
 exact ⟨rfl, HB⟩
end Go.Proofs.YtbepmeipjdpipaaGreat

namespace Go.Proofs.YtbepmeipjdpipaaGreat
open Go.RowKit
theorem seatKids_len {sk : Nat → SeS → SeS × SeK} {ct : Nat → Nat} {op : Int} : ∀ {zs : List Int} {t : SeS} {c : SeK}, (∀ z, z ∈ zs → ∀ t, (sk z.toNat t).1.lb.length = t.lb.length + ct z.toNat) → (kidsB sk op zs t c).1.lb.length = t.lb.length + cntL ct zs
 | [], t, c, _ => rfl
 | z :: zs, t, c, h => by
  unfold kidsB
  rw [seatKids_len (ct := ct) (fun z hz => h z (List.mem_cons_of_mem _ hz))]
  have h1 := h z (List.mem_cons_self ..) t
  have h2 : (stepB op (sk z.toNat t).1 c (sk z.toNat t).2).1.lb = (sk z.toNat t).1.lb := by unfold stepB; split; rfl; split; rfl; dsimp only; split <;> rfl
  rw [h2, h1]
  show _ = t.lb.length + (ct z.toNat + cntL ct zs)
  omega
theorem seatB_len (ps : List Pc) : ∀ (n z : Nat) (t : SeS), (seatB ps n z t).1.lb.length = t.lb.length + cntK ps n z
 | 0, z, t => rfl
 | n + 1, z, t => by
  unfold seatB cntK
  by_cases e : (pat ps z).1 = 1
  ·rw [if_pos e, if_pos e]; simp
  ·rw [if_neg e, if_neg e]
   exact seatKids_len (fun z _ t => seatB_len ps n z.toNat t)
theorem kidsB_next {sk : Nat → SeS → SeS × SeK} {op : Int} {ks : List Int} {k : Nat} {t : SeS} {c : SeK} {r : SeS × SeK} (h : kidsB sk op (ks.drop k) t c = r) (hk : k < ks.length) : kidsB sk op (ks.drop (k + 1)) (stepB op (sk (ks.getD k 0).toNat t).1 c (sk (ks.getD k 0).toNat t).2).1 (stepB op (sk (ks.getD k 0).toNat t).1 c (sk (ks.getD k 0).toNat t).2).2 = r := by
 rw [← h, List.drop_eq_getElem_cons hk]
 conv => rhs; unfold kidsB
 simp [List.getD, hk]
theorem cntL_next {ct : Nat → Nat} {ks : List Int} {k : Nat} (hk : k < ks.length) : cntL ct (ks.drop k) = ct (ks.getD k 0).toNat + cntL ct (ks.drop (k + 1)) := by
 rw [List.drop_eq_getElem_cons hk]
 show ct _ + _ = _
 simp [List.getD, hk]
def ShM (lo hi sg m : Nat) (xs : List Value) (ps : List Pc) (w : World) : Prop := Shs lo hi w xs ps m ∧ (∀ j, j < m → w.cell? ⟨sg, j, none⟩ = some (xs.getD j .nilIface)) ∧ sg < w.heap.size ∧ hi ≤ w.heap.size
theorem ShM.kept {lo hi sg m : Nat} {xs : List Value} {ps : List Pc} {w w' : World} {p : Nat → Prop} (h : ShM lo hi sg m xs ps w) (hk : KeptP p w w') (hp : ∀ k, k < hi → ¬ p k) (hs : ¬ p sg) : ShM lo hi sg m xs ps w' :=
 ⟨⟨h.1.1, fun i hi' => by obtain ⟨a, c, h1, h2⟩ := h.1.2 i hi'; exact ⟨a, c, h1, h2.kept hk h.2.2.2 (fun k _ h3 => hp k h3)⟩⟩, fun j hj => hk.cell (h.2.1 j hj) h.2.2.1 hs, Nat.lt_of_lt_of_le h.2.2.1 hk.size, Nat.le_trans h.2.2.2 hk.size⟩
structure Sd (M H R lo hi sg m : Nat) (xs : List Value) (ps : List Pc) (w : World) (sh lv0 : Value) (pv : Value) (wr : World) (t : SeS) (c : SeK) (lv : Value) : Prop where
 hR : R = w.heap.size
 MR : M < R
 sgo : Sg M H wr sh lv t
 shm : ShM lo hi sg m xs ps wr
 res : BBlk wr R 49 noB
 all : BBlk wr (R + 1) 49 (stF c.nl c.fi c.la)
 box : Blk wr (R + 1 + 1) 1 (fun _ => pv)
 l0 : ∀ b, lv0.ownBlock = some b → H ≤ b ∧ b < R
 kp : KeptP (fun c => c = M ∨ lv0.ownBlock = some c) w wr
 nb : NewB (R + 3) lv0 lv
section
variable {M H R lo hi sg m : Nat} {xs : List Value} {ps : List Pc} {w : World} {sh lv0 pv : Value} {wr : World} {t : SeS} {c : SeK} {lv : Value}
theorem Sd.sz (h : Sd M H R lo hi sg m xs ps w sh lv0 pv wr t c lv) : R + 3 ≤ wr.heap.size := h.box.lt
theorem Sd.lvx (h : Sd M H R lo hi sg m xs ps w sh lv0 pv wr t c lv) {b : Nat} (e : lv.ownBlock = some b) : H ≤ b ∧ (b < R ∨ R + 3 ≤ b) := by
 refine ⟨(h.sgo.lab.lt b e).1, ?_⟩
 rcases h.nb with h1 | h1
 ·rw [h1] at e; exact .inl (h.l0 b e).2
 ·exact .inr (h1 b e)
theorem Sd.kid {w2 : World} {t' : SeS} {lv' : Value} (h : Sd M H R lo hi sg m xs ps w sh lv0 pv wr t c lv) (hm : Sg M H w2 sh lv' t') (hk : KeptP (fun c => c = M ∨ lv.ownBlock = some c) wr w2) (hnb : NewB wr.heap.size lv lv') (hhi : hi ≤ H) (hsg : sg < H) (hHM : H ≤ M) : Sd M H R lo hi sg m xs ps w sh lv0 pv w2 t' c lv' := by
 have hsz := h.sz
 have hMR := h.MR
 have hp : ∀ k, R ≤ k → k < R + 3 → ¬ (k = M ∨ lv.ownBlock = some k) := fun k h1 h2 e => by
  rcases e with e | e
  ·omega
  ·have := (h.lvx e).2; omega
 have hlow : ∀ k, k < H → ¬ (k = M ∨ lv.ownBlock = some k) := fun k h1 e => by
  rcases e with e | e
  ·omega
  ·have := (h.lvx e).1; omega
 exact
  { h with
    sgo := hm
    shm := h.shm.kept hk (fun k hk' => hlow k (by omega)) (hlow _ hsg)
    res := hk.blk h.res (hp _ (Nat.le_refl _) (by omega))
    all := hk.blk h.all (hp _ (by omega) (by omega))
    box := hk.blk h.box (hp _ (by omega) (by omega))
    kp := kp_trans h.kp hk (fun b hb e => by
     rcases e with e | e
     ·exact .inl e
     ·rcases h.nb with h1 | h1
      ·rw [h1] at e; exact .inr e
      ·have := h1 b e; have := h.hR; omega)
    nb := by
     rcases hnb with h1 | h1
     ·rcases h.nb with h2 | h2
      ·exact .inl (h1.trans h2)
      ·exact .inr fun b e => h2 b (by rw [← h1]; exact e)
     ·exact .inr fun b e => Nat.le_trans hsz (h1 b e) }
theorem Sd.behind {w2 : World} {bh : Nat → Nat → Bool} (h : Sd M H R lo hi sg m xs ps w sh lv0 pv wr t c lv) (hm : Blk w2 M 578 (sgF sh lv bh)) (hk : KeptP (fun c => c = M) wr w2) (hhi : hi ≤ H) (hsg : sg < H) (hHM : H ≤ M) : Sd M H R lo hi sg m xs ps w sh lv0 pv w2 { t with bh := bh } c lv :=
 have hMR := h.MR
 { h with
   sgo := ⟨hm, owns_keptP h.sgo.lab hk (fun b e e2 => h.sgo.off (by rw [← e2]; exact e)), h.sgo.off⟩
   shm := h.shm.kept hk (fun k hk' e => by omega) (by omega)
   res := hk.blk h.res (by omega)
   all := hk.blk h.all (by omega)
   box := hk.blk h.box (by omega)
   kp := kp_trans h.kp hk (fun b _ e => .inl e) }
theorem Sd.put {w2 : World} {c' : SeK} (h : Sd M H R lo hi sg m xs ps w sh lv0 pv wr t c lv) (hk : KeptP (fun c => c = R + 1) wr w2) (hA : BBlk w2 (R + 1) 49 (stF c'.nl c'.fi c'.la)) (hhi : hi ≤ H) (hsg : sg < H) (hHM : H ≤ M) : Sd M H R lo hi sg m xs ps w sh lv0 pv w2 t c' lv :=
 have hMR := h.MR
 { h with
   sgo := ⟨hk.blk h.sgo.blk (by omega), owns_keptP h.sgo.lab hk (fun b e e2 => by have := (h.lvx e).2; omega), h.sgo.off⟩
   shm := h.shm.kept hk (fun k hk' e => by omega) (by omega)
   res := hk.blk h.res (by omega)
   all := hA
   box := hk.blk h.box (by omega)
   kp := kp_trans h.kp hk (fun b hb e => by have := h.hR; omega) }
theorem Sd.below {w2 : World} (h : Sd M H R lo hi sg m xs ps w sh lv0 pv wr t c lv) (hb : Below wr.heap.size wr w2) (hhi : hi ≤ H) (hsg : sg < H) (hHM : H ≤ M) : Sd M H R lo hi sg m xs ps w sh lv0 pv w2 t c lv :=
 have hMR := h.MR
 have hsz := h.sz
 { h with
   sgo := ⟨h.sgo.blk.of_block (hb.block _ h.sgo.blk.lt), own_below h.sgo.lab hb, h.sgo.off⟩
   shm := h.shm.kept (kp_below hb) (fun k hk' e => by omega) (by omega)
   res := h.res.of (hb.block _ h.res.lt)
   all := h.all.of (hb.block _ h.all.lt)
   box := h.box.of_block (hb.block _ h.box.lt)
   kp := kp_trans h.kp (kp_below hb) (fun b hb e => by have := h.hR; omega) }
theorem Sd.fin (h : Sd M H R lo hi sg m xs ps w sh lv0 pv wr t c lv) : SeatPost M H w sh lv0 (t, c) (.returned (stv c.nl c.fi c.la)) (wr.setCells R 0 (bcells 49 (stF c.nl c.fi c.la))) := by
 have hk : KeptP (fun c => c = R) wr (wr.setCells R 0 (bcells 49 (stF c.nl c.fi c.la))) := KeptP.setCells (p := fun c => c = R) (g := R) rfl _ _ (kp_refl _ _)
 have hMR := h.MR
 have hR := h.hR
 refine ⟨lv, rfl, ⟨hk.blk h.sgo.blk (by omega), owns_keptP h.sgo.lab hk (fun b e e2 => by have := (h.lvx e).2; omega), h.sgo.off⟩, kp_trans h.kp hk (fun b hb e => by omega), ?_⟩
 rcases h.nb with h1 | h1
 ·exact .inl h1
 ·exact .inr fun b e => by have := h1 b e; omega
end
theorem stF_zero : stF false noneB noneB = noB := by
 funext i; unfold stF noneB noB; split <;> (try split) <;> rfl
set_option maxRecDepth 100000 in
theorem build_st0 (w : World) : (Instr.build 121 #[]).run Tryz.prog w = .ok (.agg (bcells 49 noB).toArray) w := run_build w 121 _ _ (by kernel_rfl)
theorem sta_step_step (v : Value) (w : World) : (Instr.typeAssert (.iface 142 v) 136 142 true).run Tryz.prog w = .ok (.tuple #[v, .bool true]) w := by kernel_rfl
theorem sta_row_step (v : Value) (w : World) : (Instr.typeAssert (.iface 147 v) 136 142 true).run Tryz.prog w = .ok (.tuple #[.agg #[.int .u8 0], .bool false]) w := by kernel_rfl
theorem sta_row_row (v : Value) (w : World) : (Instr.typeAssert (.iface 147 v) 136 147 true).run Tryz.prog w = .ok (.tuple #[v, .bool true]) w := by kernel_rfl
theorem sta_alt_step (v : Value) (w : World) : (Instr.typeAssert (.iface 149 v) 136 142 true).run Tryz.prog w = .ok (.tuple #[.agg #[.int .u8 0], .bool false]) w := by kernel_rfl
theorem sta_alt_row (v : Value) (w : World) : (Instr.typeAssert (.iface 149 v) 136 147 true).run Tryz.prog w = .ok (.tuple #[.agg #[.slice none 0 0], .bool false]) w := by kernel_rfl
theorem sta_alt_alt (v : Value) (w : World) : (Instr.typeAssert (.iface 149 v) 136 149 true).run Tryz.prog w = .ok (.tuple #[v, .bool true]) w := by kernel_rfl
theorem sta_star_step (v : Value) (w : World) : (Instr.typeAssert (.iface 154 v) 136 142 true).run Tryz.prog w = .ok (.tuple #[.agg #[.int .u8 0], .bool false]) w := by kernel_rfl
theorem sta_star_row (v : Value) (w : World) : (Instr.typeAssert (.iface 154 v) 136 147 true).run Tryz.prog w = .ok (.tuple #[.agg #[.slice none 0 0], .bool false]) w := by kernel_rfl
theorem sta_star_alt (v : Value) (w : World) : (Instr.typeAssert (.iface 154 v) 136 149 true).run Tryz.prog w = .ok (.tuple #[.agg #[.slice none 0 0], .bool false]) w := by kernel_rfl
theorem sta_star_star (v : Value) (w : World) : (Instr.typeAssert (.iface 154 v) 136 154 true).run Tryz.prog w = .ok (.tuple #[v, .bool true]) w := by kernel_rfl
theorem sta_plus_step (v : Value) (w : World) : (Instr.typeAssert (.iface 155 v) 136 142 true).run Tryz.prog w = .ok (.tuple #[.agg #[.int .u8 0], .bool false]) w := by kernel_rfl
theorem sta_plus_row (v : Value) (w : World) : (Instr.typeAssert (.iface 155 v) 136 147 true).run Tryz.prog w = .ok (.tuple #[.agg #[.slice none 0 0], .bool false]) w := by kernel_rfl
theorem sta_plus_alt (v : Value) (w : World) : (Instr.typeAssert (.iface 155 v) 136 149 true).run Tryz.prog w = .ok (.tuple #[.agg #[.slice none 0 0], .bool false]) w := by kernel_rfl
theorem sta_plus_star (v : Value) (w : World) : (Instr.typeAssert (.iface 155 v) 136 154 true).run Tryz.prog w = .ok (.tuple #[.agg #[.int .i64 0], .bool false]) w := by kernel_rfl
theorem sta_plus_plus (v : Value) (w : World) : (Instr.typeAssert (.iface 155 v) 136 155 true).run Tryz.prog w = .ok (.tuple #[v, .bool true]) w := by kernel_rfl
theorem sta_opt_step (v : Value) (w : World) : (Instr.typeAssert (.iface 156 v) 136 142 true).run Tryz.prog w = .ok (.tuple #[.agg #[.int .u8 0], .bool false]) w := by kernel_rfl
theorem sta_opt_row (v : Value) (w : World) : (Instr.typeAssert (.iface 156 v) 136 147 true).run Tryz.prog w = .ok (.tuple #[.agg #[.slice none 0 0], .bool false]) w := by kernel_rfl
theorem sta_opt_alt (v : Value) (w : World) : (Instr.typeAssert (.iface 156 v) 136 149 true).run Tryz.prog w = .ok (.tuple #[.agg #[.slice none 0 0], .bool false]) w := by kernel_rfl
theorem sta_opt_star (v : Value) (w : World) : (Instr.typeAssert (.iface 156 v) 136 154 true).run Tryz.prog w = .ok (.tuple #[.agg #[.int .i64 0], .bool false]) w := by kernel_rfl
theorem sta_opt_plus (v : Value) (w : World) : (Instr.typeAssert (.iface 156 v) 136 155 true).run Tryz.prog w = .ok (.tuple #[.agg #[.int .i64 0], .bool false]) w := by kernel_rfl
theorem sta_opt_opt (v : Value) (w : World) : (Instr.typeAssert (.iface 156 v) 136 156 true).run Tryz.prog w = .ok (.tuple #[v, .bool true]) w := by kernel_rfl
end Go.Proofs.YtbepmeipjdpipaaGreat

namespace Go.Proofs.YtbepmeipjdpipaaGreat
open Go.RowKit
set_option maxHeartbeats 2000000 in
set_option maxRecDepth 100000 in
theorem seat_step (lo hi M H sg m sc : Nat) (xs : List Value) (ps : List Pc) (n z : Nat) (lv : Value) (t : SeS) (w : World) (hx : ShM lo hi sg m xs ps w) (hhi : hi ≤ H) (hsg : sg < H) (hHM : H ≤ M) (hn : ps.length = m) (hz : z < m) (hop : (pat ps z).1 = 1) (hok : ∀ i, i < ps.length → formOk (pat ps i) = true ∧ kidsOk i (pat ps i).2.2 = true) (hq : (pat ps z).2.2.length ≤ 1048576) (hm : Sg M H w (.slice (some ⟨sg, 0, none⟩) m sc) lv t) (hcnt : t.lb.length + cntK ps (n + 1) z ≤ 23)
  (ih : ∀ k, k < z → ∀ (t' : SeS) (lv' : Value) (w' : World), ShM lo hi sg m xs ps w' → Sg M H w' (.slice (some ⟨sg, 0, none⟩) m sc) lv' t' → t'.lb.length + cntK ps n k ≤ 23 → Calls Tryz.prog 66 #[.pointer (some ⟨M, 0, none⟩), .int .i64 (k : Int)] w' (SeatPost M H w' (.slice (some ⟨sg, 0, none⟩) m sc) lv' (seatB ps n k t'))) :
  Calls Tryz.prog 66 #[.pointer (some ⟨M, 0, none⟩), .int .i64 (z : Int)] w (SeatPost M H w (.slice (some ⟨sg, 0, none⟩) m sc) lv (seatB ps (n + 1) z t)) := by
 have HN : Hid (ps.length = m ∧ z < m ∧ hi ≤ H ∧ sg < H ∧ H ≤ M) := ⟨hn, hz, hhi, hsg, hHM⟩
 have HIH : Hid (∀ k, k < z → ∀ (t' : SeS) (lv' : Value) (w' : World), ShM lo hi sg m xs ps w' → Sg M H w' (.slice (some ⟨sg, 0, none⟩) m sc) lv' t' → t'.lb.length + cntK ps n k ≤ 23 → Calls Tryz.prog 66 #[.pointer (some ⟨M, 0, none⟩), .int .i64 (k : Int)] w' (SeatPost M H w' (.slice (some ⟨sg, 0, none⟩) m sc) lv' (seatB ps n k t'))) := ih
 obtain ⟨r, HRR⟩ : ∃ r, Hid (r = seatB ps (n + 1) z t) := ⟨_, rfl⟩
 have hru := HRR.out
 rw [← HRR.out]
 have hkz := (hok z (by omega)).2
 have hfz := (hok z (by omega)).1
 obtain ⟨ra, rc, hxv, hrow⟩ := hx.1.2 z hz
 have hcell := hx.2.1 z hz
 rw [hxv] at hcell
 obtain ⟨x, HX⟩ : ∃ x, Hid (x = pat ps z) := ⟨_, rfl⟩
 unfold seatB at hru
 unfold cntK at hcnt
 rw [← HX.out] at hop hcell hrow hq hkz hfz hru hcnt
 obtain ⟨x0, x1, ks⟩ := x
 dsimp only at hop hcell hrow hq hkz hfz hru hcnt
 subst hop
 rw [if_pos rfl] at hru hcnt
 have HC1 : Hid (t.lb.length < 23) := by show _ < _; omega
 have HRE : Hid (r = ({ t with lb := t.lb ++ [x1] }, ⟨oneB (t.lb.length + 1), oneB (t.lb.length + 1), false⟩)) := hru
 have hv : shv ra rc (1, x1, ks) = .iface 142 (.agg #[.int .u8 x1]) := rfl
 rw [hv] at hcell
 obtain ⟨R, HR⟩ : ∃ R, Hid (R = w.heap.size) := ⟨_, rfl⟩
 obtain ⟨V, HV⟩ : ∃ W, Hid (W = ((w.alloc (.cells #[.bool false, .bool false, .bool false, .bool false, .bool false, .bool false, .bool false, .bool false, .bool false, .bool false, .bool false, .bool false, .bool false, .bool false, .bool false, .bool false, .bool false, .bool false, .bool false, .bool false, .bool false, .bool false, .bool false, .bool false, .bool false, .bool false, .bool false, .bool false, .bool false, .bool false, .bool false, .bool false, .bool false, .bool false, .bool false, .bool false, .bool false, .bool false, .bool false, .bool false, .bool false, .bool false, .bool false, .bool false, .bool false, .bool false, .bool false, .bool false, .bool false] 121)).alloc (.cells #[.bool false, .bool false, .bool false, .bool false, .bool false, .bool false, .bool false, .bool false, .bool false, .bool false, .bool false, .bool false, .bool false, .bool false, .bool false, .bool false, .bool false, .bool false, .bool false, .bool false, .bool false, .bool false, .bool false, .bool false, .bool false, .bool false, .bool false, .bool false, .bool false, .bool false, .bool false, .bool false, .bool false, .bool false, .bool false, .bool false, .bool false, .bool false, .bool false, .bool false, .bool false, .bool false, .bool false, .bool false, .bool false, .bool false, .bool false, .bool false, .bool false] 121)).setCells (R + 1) 0 (bcells 49 noB)) := ⟨_, rfl⟩
 have HT : Hid (((w.alloc (.cells #[.bool false, .bool false, .bool false, .bool false, .bool false, .bool false, .bool false, .bool false, .bool false, .bool false, .bool false, .bool false, .bool false, .bool false, .bool false, .bool false, .bool false, .bool false, .bool false, .bool false, .bool false, .bool false, .bool false, .bool false, .bool false, .bool false, .bool false, .bool false, .bool false, .bool false, .bool false, .bool false, .bool false, .bool false, .bool false, .bool false, .bool false, .bool false, .bool false, .bool false, .bool false, .bool false, .bool false, .bool false, .bool false, .bool false, .bool false, .bool false, .bool false] 121)).alloc (.cells #[.bool false, .bool false, .bool false, .bool false, .bool false, .bool false, .bool false, .bool false, .bool false, .bool false, .bool false, .bool false, .bool false, .bool false, .bool false, .bool false, .bool false, .bool false, .bool false, .bool false, .bool false, .bool false, .bool false, .bool false, .bool false, .bool false, .bool false, .bool false, .bool false, .bool false, .bool false, .bool false, .bool false, .bool false, .bool false, .bool false, .bool false, .bool false, .bool false, .bool false, .bool false, .bool false, .bool false, .bool false, .bool false, .bool false, .bool false, .bool false, .bool false] 121)).there (w.heap.size + 1) 0 49) := (BBlk.zero49 _ (w.heap.size + 1) (by simp) _).there 0 49 (by omega)
 have HBV : Hid (Below w.heap.size w V) := by rw [HV.out]; exact Below.setCells (by have := HR.out; omega) _ _ (below2 w _ _)
 have HRV : Hid (BBlk V R 49 noB) := by rw [HV.out]; exact BBlk.of (Blk.alloc (BBlk.zero49 w R HR.out _) _) (block_setCells (by omega) _ _ _)
 have HAV : Hid (BBlk V (R + 1) 49 noB) := by rw [HV.out]; exact (BBlk.zero49 _ (R + 1) (by rw [HR.out]; simp) _).put _
 have HSV : Hid (V.heap.size = R + 2) := by rw [HV.out]; show _ = _; rw [size_setCells, HR.out]; simp
 obtain ⟨W, HW⟩ : ∃ W, Hid (W = V.alloc (.cells #[.int .u8 x1] 142)) := ⟨_, rfl⟩
 have HBW : Hid (Below V.heap.size V W) := by rw [HW.out]; exact below1 V _
 have HPW : Hid (Blk W (R + 1 + 1) 1 (fun _ => .int .u8 x1)) := by rw [HW.out]; exact blk_one V (R + 1 + 1) (by rw [HSV.out]) _ _
 have HMR : Hid (M < R) := by rw [HR.out]; exact hm.blk.lt
 have HBE : Hid (Below w.heap.size w W) := HBV.out.trans (HBW.out.mono HBV.out.size)
 have HSD0 : Hid (Sd M H R lo hi sg m xs ps w (.slice (some ⟨sg, 0, none⟩) m sc) lv (.int .u8 x1) W t ⟨noneB, noneB, false⟩ lv) :=
  { hR := HR.out
    MR := HMR.out
    sgo := ⟨hm.blk.of_block (HBE.out.block _ hm.blk.lt), own_below hm.lab HBE.out, hm.off⟩
    shm := hx.kept (kp_below HBE.out) (fun k hk e => by have := hx.2.2.2; omega) (by have := hx.2.2.1; omega)
    res := HRV.out.of (HBW.out.block _ HRV.out.lt)
    all := by rw [stF_zero]; exact HAV.out.of (HBW.out.block _ HAV.out.lt)
    box := HPW.out
    l0 := fun b e => by have h1 := hm.lab.lt b e; rw [HR.out]; exact h1
    kp := KeptP.of_below HBE.out (fun _ h _ => h)
    nb := .inl rfl }
 have hz0 : (0 : Int) ≤ (z : Int) := by omega
 have hz1 : (z : Int) < (m : Int) := by omega
 have hzc : ∀ w, (Instr.build 121 #[]).run Tryz.prog w = .ok (.agg (bcells 49 noB).toArray) w := build_st0
 have c0 : V.cell? ⟨M, 0, none⟩ = some (.slice (some ⟨sg, 0, none⟩) m sc) := cell_below (hm.blk.cell (i := 0) (by omega)) HBV.out hm.blk.lt
 have c1 := cell_below hcell HBV.out hx.2.2.1
 have HHX : Hid (hi ≤ w.heap.size) := hx.2.2.2
 clear hx hcell hrow hm hru hcnt hkz hfz hok ih hxv hv hn hz HRR HX
 go_enter Tryz.func66, Tryz.ntmps66
 obtain ⟨FF, HFF⟩ : ∃ F : Func, Hid (F = Tryz.f66) := ⟨_, rfl⟩
 rw [← HFF.out]
 go_upto_region 2 with (first | (with_reducible refine wpList_here' ?_; first | (refine wpList_build rfl 121 _ rfl #[] (by kernel_rfl) (bcells 49 noB).toArray hzc ?_) | (refine wpList_store_mid rfl 121 _ _ rfl (w.heap.size + 1) 0 (bcells 49 noB).toArray rfl rfl (by rw [bcells_size]; exact HT.out) (by rw [bcells_size]; exact info_st) (bcells_one _ _) ?_; dsimp only [Act.put])))
 rw [← HR.out]
 first | rw [← HV.out] | (rw [show _ = V from HV.out.symm])
 clear hzc
 have ta_step := sta_step_step
 go_upto_region 5 with fail
 first | rw [show V.heap.size = R + 1 + 1 from HSV.out] | skip
 first | rw [← HW.out] | (rw [show _ = W from HW.out.symm])
 clear HW HV HT HRV HAV HSV HBW HPW HBV HBE c0 c1 ta_step
 have p0 : W.cell? ⟨R + 1 + 1, 0, none⟩ = some (.int .u8 x1) := HSD0.out.box.cell (i := 0) (by omega)
 go_upto_region 32 with (first | (go_at_call 79; refine (seatStep_any M H _ lv t x1 W HSD0.out.sgo HC1.out).mono ?_; rintro e w2 ⟨lv2, rfl, HSG, HK, HNB⟩; have HS2 := Hid_mk (HSD0.out.kid HSG.out HK.out HNB.out HN.out.2.2.1 HN.out.2.2.2.1 HN.out.2.2.2.2)) | (with_reducible refine wpList_here' ?_; first | (refine wpList_store_mid rfl 121 _ _ rfl (R + 1) 0 (bcells 49 (stF false (oneB (t.lb.length + 1)) (oneB (t.lb.length + 1)))).toArray rfl rfl (by rw [bcells_size]; exact HS2.out.all.there 0 49 (by omega)) (by rw [bcells_size]; exact info_st) (bcells_one _ _) ?_; dsimp only [Act.put])))
 have HKA : Hid (KeptP (fun c => c = R + 1) w2 (w2.setCells (R + 1) 0 (bcells 49 (stF false (oneB (t.lb.length + 1)) (oneB (t.lb.length + 1)))))) := KeptP.setCells (p := fun c => c = R + 1) (g := R + 1) rfl _ _ (kp_refl _ _)
 have HS3 := Hid_mk (HS2.out.put (c' := ⟨oneB (t.lb.length + 1), oneB (t.lb.length + 1), false⟩) HKA.out (HS2.out.all.put _) HN.out.2.2.1 HN.out.2.2.2.1 HN.out.2.2.2.2)
 obtain ⟨w3, HW3⟩ : ∃ x, Hid (x = w2.setCells (R + 1) 0 (bcells 49 (stF false (oneB (t.lb.length + 1)) (oneB (t.lb.length + 1))))) := ⟨_, rfl⟩
 rw [← HW3.out] at HS3
 first | rw [← HW3.out] | (rw [show _ = w3 from HW3.out.symm])
 clear HW3 p0 HS2 HSG HK HNB HSD0 HKA
 go_wp2_with (first | (with_reducible refine wpList_here' ?_; first | (refine wpList_load_mid rfl 121 _ rfl (R + 1) 0 rfl (bcells 49 (stF false (oneB (t.lb.length + 1)) (oneB (t.lb.length + 1)))) _ HS3.out.all.all Tryz.underlying121 rfl (by rw [bcells_len]; exact info_st) ?_) | (refine wpList_store_mid rfl 121 _ _ rfl R 0 (bcells 49 (stF false (oneB (t.lb.length + 1)) (oneB (t.lb.length + 1)))).toArray rfl rfl (by rw [bcells_size]; exact HS3.out.res.there 0 49 (by omega)) (by rw [bcells_size]; exact info_st) (bcells_one _ _) ?_; dsimp only [Act.put])))
 obtain rfl : FF = Tryz.f66 := HFF.out
 have HRF := Hid_mk (HS3.out.res.put (stF false (oneB (t.lb.length + 1)) (oneB (t.lb.length + 1))))
 refine bodyPost_ret (results_row (k := 4) (t := 121) (b := R) Tryz.results66 rfl (load_st HRF.out)) rfl ?_
 rw [HRE.out]
 exact HS3.out.fin
end Go.Proofs.YtbepmeipjdpipaaGreat
