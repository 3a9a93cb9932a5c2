import Derived.Test.YtbepmeipjdpipaaGreatJo06
import Derived.Test.YtbepmeipjdpipaaGreatJo19
import Derived.Test.YtbepmeipjdpipaaGreatJo03
import Derived.Test.YtbepmeipjdpipaaGreatJo05
import Derived.Test.YtbepmeipjdpipaaGreatJo21
import Derived.Test.YtbepmeipjdpipaaGreatJo16
namespace Go.Proofs.YtbepmeipjdpipaaGreat
open Go.RowKit
theorem cntL_snoc (c : Nat → Nat) (x : Int) : ∀ l : List Int, cntL c (l ++ [x]) = cntL c l + c x.toNat
 | [] => by simp [cntL]
 | y :: l => by show c y.toNat + cntL c (l ++ [x]) = c y.toNat + cntL c l + c x.toNat; rw [cntL_snoc c x l]; omega
theorem cntL_congr {c d : Nat → Nat} : ∀ {l : List Int}, (∀ x, x ∈ l → c x.toNat = d x.toNat) → cntL c l = cntL d l
 | [], _ => rfl
 | y :: l, h => by show c y.toNat + cntL c l = d y.toNat + cntL d l; rw [h y (List.mem_cons_self ..), cntL_congr fun x hx => h x (List.mem_cons_of_mem _ hx)]
theorem cntK_fuel {ps : List Pc} (hok : ∀ i, i < ps.length → formOk (pat ps i) = true ∧ kidsOk i (pat ps i).2.2 = true) : ∀ (n m z : Nat), z < n → z < m → z < ps.length → cntK ps n z = cntK ps m z := by
 intro n
 induction n with
 | zero => intro m z h; omega
 | succ n ih =>
  intro m z h1 h2 h3
  obtain ⟨m, rfl⟩ : ∃ k, m = k + 1 := ⟨m - 1, by omega⟩
  unfold cntK
  by_cases e : (pat ps z).1 = 1
  ·rw [if_pos e, if_pos e]
  ·rw [if_neg e, if_neg e]
   refine cntL_congr fun x hx => ?_
   have h4 := List.all_eq_true.1 (hok z h3).2 x hx
   simp only [Bool.and_eq_true, decide_eq_true_eq] at h4
   exact ih m x.toNat (by omega) (by omega) (by omega)
def cS (ps : List Pc) (z : Nat) : Nat := min 24 (cntK ps (z + 1) z)
def csL (ps : List Pc) : Nat → List Int
 | 0 => []
 | n + 1 => csL ps n ++ [(cS ps n : Int)]
theorem csL_len (ps : List Pc) : ∀ n, (csL ps n).length = n
 | 0 => rfl
 | n + 1 => by show (csL ps n ++ _).length = _; rw [List.length_append, csL_len ps n]; rfl
theorem csL_at (ps : List Pc) {z : Nat} : ∀ {n : Nat}, z < n → (csL ps n).getD z 0 = (cS ps z : Int)
 | 0, h => by omega
 | n + 1, h => by
  show (csL ps n ++ _).getD z 0 = _
  by_cases e : z < n
  ·rw [List.getD, List.getElem?_append_left (by rw [csL_len]; exact e)]
   exact csL_at ps e
  ·obtain rfl : z = n := by omega
   rw [List.getD, List.getElem?_append_right (by rw [csL_len]; exact Nat.le_refl _), csL_len]
   simp
def cJ (ps : List Pc) (ks : List Int) : Nat → Nat
 | 0 => if ks.length = 0 then 1 else 0
 | j + 1 => min (cJ ps ks j + cS ps (ks.getD j 0).toNat) 24
theorem cJ_le (ps : List Pc) (ks : List Int) : ∀ j, cJ ps ks j ≤ 24
 | 0 => by unfold cJ; split <;> omega
 | j + 1 => by unfold cJ; omega
theorem cS_le (ps : List Pc) (z : Nat) : cS ps z ≤ 24 := by unfold cS; omega
theorem cJ_sum {ps : List Pc} {ks : List Int} (h0 : ¬ ks.length = 0) : ∀ j, j ≤ ks.length → cJ ps ks j = min 24 (cntL (fun k => cntK ps (k + 1) k) (ks.take j))
 | 0, _ => by unfold cJ; rw [if_neg h0]; rfl
 | j + 1, h => by
  unfold cJ
  rw [cJ_sum h0 j (by omega), take_snocI ks (by omega), cntL_snoc]
  unfold cS
  omega
theorem form_len {x : Pc} (h : formOk x = true) : (x.1 = 1 ∧ x.2.2.length = 0) ∨ (¬ x.1 = 1 ∧ ¬ x.2.2.length = 0) := by
 obtain ⟨x0, x1, ks⟩ := x
 show (x0 = 1 ∧ ks.length = 0) ∨ (¬ x0 = 1 ∧ ¬ ks.length = 0)
 rcases formOk_cases h with ⟨e, _, h4⟩ | ⟨e, _, h4⟩ | ⟨e, _, h4⟩ | ⟨e, _, h4⟩ | ⟨e, _, h4⟩ | ⟨e, _, h4⟩
 ·exact .inl ⟨e, h4⟩
 all_goals exact .inr ⟨by omega, by omega⟩
theorem cJ_all {ps : List Pc} (hok : ∀ i, i < ps.length → formOk (pat ps i) = true ∧ kidsOk i (pat ps i).2.2 = true) {z : Nat} (hz : z < ps.length) : cJ ps (pat ps z).2.2 (pat ps z).2.2.length = cS ps z := by
 rcases form_len (hok z hz).1 with ⟨e1, h0⟩ | ⟨e1, h0⟩
 ·rw [h0]
  show (if (pat ps z).2.2.length = 0 then 1 else 0) = _
  rw [if_pos h0]
  unfold cS cntK
  rw [if_pos e1]
  rfl
 ·rw [cJ_sum h0 _ (Nat.le_refl _), List.take_length]
  unfold cS
  conv => rhs; unfold cntK
  rw [if_neg e1]
  refine congrArg _ (cntL_congr fun x hx => ?_)
  have h4 := List.all_eq_true.1 (hok z hz).2 x hx
  simp only [Bool.and_eq_true, decide_eq_true_eq] at h4
  exact cntK_fuel hok _ _ _ (by omega) (by omega) (by omega)
set_option maxHeartbeats 1000000 in
set_option maxRecDepth 100000 in
theorem steps_any (lo hi B : Nat) (sv : Value) (n : Nat) (xs : List Value) (l : List Pc) (w : World) (hx : Shs lo hi w xs l n) (ho : w.ownsRow B 136 1 sv n xs) (hh : hi ≤ w.heap.size) (hn : l.length = n) (h1n : 1 ≤ n) (hn6 : n ≤ 60) (hok : ∀ i, i < l.length → formOk (pat l i) = true ∧ kidsOk i (pat l i).2.2 = true) (hq : ∀ i, i < n → (pat l i).2.2.length ≤ 1048576) :
  Calls Tryz.prog 65 #[sv] w fun e w' => e = .returned (.int .i64 (cS l (n - 1) : Int)) ∧ Hid (Below w.heap.size w w') := by
 obtain ⟨i3, hi3, hz30, hz31, hz32⟩ := info_parts Tryz.info3
 obtain ⟨sa, sc, rfl, hsc⟩ := own_shape ho
 obtain ⟨sg, rfl, _, hsl, hcell⟩ := hsc (by omega)
 have HSL : Hid (sg < w.heap.size) := hsl
 have HCELL : Hid (∀ j, j < n → w.cell? ⟨sg, j, none⟩ = some (xs.getD j (.int .i64 0))) := hcell
 have HX : Hid (Shs lo hi w xs l n) := hx
 have HN : Hid (l.length = n) := hn
 have HH : Hid (hi ≤ w.heap.size) := hh
 have HOK : Hid (∀ i, i < l.length → formOk (pat l i) = true ∧ kidsOk i (pat l i).2.2 = true) := hok
 have HQ : Hid (∀ i, i < n → (pat l i).2.2.length ≤ 1048576) := hq
 clear hx ho hh hn hok hq hsl hcell hsc
 obtain ⟨B0, HB0⟩ : ∃ B, Hid (B = w.heap.size) := ⟨_, rfl⟩
 go_enter Tryz.func65, Tryz.ntmps65
 go_wp2
 go_loopw [12, 3] (fun i v wr => ∃ k : Nat, i = .int .i64 (k : Int) ∧ k ≤ n ∧ Hid (wr.ownsRow w.heap.size 3 1 v k (rowCells (csL l k))) ∧ Hid (Below w.heap.size w wr)) (fun i _ _ => n - (intOf i).toNat)
 case atStart =>
  refine ⟨0, rfl, by omega, ?_, below1 w _⟩
  show World.ownsRow _ _ _ _ _ _ []
  have := World.ownsRow_made w (base := w.heap.size) (e := 3) (size := 1) #[] 0 (Nat.le_refl _) (Nat.zero_le _) rfl
  simpa using this
 case round =>
  obtain ⟨k, rfl, hk, HO, HBR⟩ := hrel
  obtain ⟨ca, cc, rfl, hcc⟩ := own_shape HO.out
  have HCC : Hid (0 < k → ∃ g, ca = some ⟨g, 0, none⟩ ∧ w.heap.size ≤ g ∧ g < wr.heap.size ∧ ∀ j, j < k → wr.cell? ⟨g, j, none⟩ = some ((rowCells (csL l k)).getD j (.int .i64 0))) := hcc
  clear hcc
  by_cases hlt : k < n
  ·have hlt1 : (k : Int) < (n : Int) := by omega
   have hlt0 : (0 : Int) ≤ (k : Int) := by omega
   obtain ⟨ra, rc, hxv, hrow⟩ := HX.out.2 k hlt
   have hp := cell_below (HCELL.out k hlt) HBR.out HSL.out
   have hgd : xs.getD k (.int .i64 0) = shv ra rc (pat l k) := by rw [← hxv]; simp [List.getD, HX.out.1, hlt]
   rw [hgd] at hp
   obtain ⟨x, HXX⟩ : ∃ x, Hid (x = pat l k) := ⟨_, rfl⟩
   have hfk := HOK.out k (by rw [HN.out]; exact hlt)
   have hql := HQ.out k hlt
   have hcj := cJ_all (z := k) HOK.out (by rw [HN.out]; exact hlt)
   rw [← HXX.out] at hp hrow hfk hql hcj
   obtain ⟨x0, y, ks⟩ := x
   dsimp only at hrow hfk hql hcj
   obtain ⟨q, HKL⟩ : ∃ q, Hid (ks.length = q) := ⟨_, rfl⟩
   rw [HKL.out] at hql hcj
   have HF : Hid (formOk (x0, y, ks) = true) := hfk.1
   have HKO : Hid (∀ j, j < q → ∃ z : Nat, ks.getD j 0 = (z : Int) ∧ z < k) := fun j hj => by
    have h1 := List.all_eq_true.1 hfk.2 (ks.getD j 0) (by rw [List.getD, List.getElem?_eq_getElem (by rw [HKL.out]; exact hj)]; exact List.getElem_mem _)
    simp only [Bool.and_eq_true, decide_eq_true_eq] at h1
    exact ⟨(ks.getD j 0).toNat, by omega, by omega⟩
   have HCJ : Hid (cJ l ks q = cS l k) := hcj
   have HRW : Hid (RowIn lo hi wr ra ks) := hrow.below HBR.out HH.out
   have HSR : Hid (w.heap.size ≤ wr.heap.size) := HBR.out.size
   obtain ⟨v1, HV⟩ : ∃ v, Hid (v = shv ra rc (x0, y, ks)) := ⟨_, rfl⟩
   rw [← HV.out] at hp
   have hone : v1.oneCell' = true := by rw [HV.out]; exact shv_one _ _ _
   clear hrow hfk hcj hxv hgd
   go_upto_region 6 with fail
   go_cut [19] (fun v wc => v = .bool (decide (q = 0)) ∧ Hid (Below wr.heap.size wr wc))
   case first =>
    rcases formOk_cases HF.out with ⟨rfl, h3, h4⟩ | ⟨rfl, rfl, h4⟩ | ⟨rfl, rfl, h4⟩ | ⟨rfl, rfl, h4⟩ | ⟨rfl, rfl, h4⟩ | ⟨rfl, rfl, h4⟩
    ·have hv : v1 = .iface 142 (.agg #[.int .u8 y]) := HV.out
     subst hv
     have HKN : Hid (ks = []) := List.length_eq_zero_iff.1 h4
     obtain rfl : q = 0 := by have := HKL.out; omega
     go_wp2_with fail
     refine (kidsStep_any y wr).mono ?_
     rintro e w2 ⟨rfl, HB2⟩
     go_wp2_with fail
     go_meet
     case rel => exact ⟨rfl, HB2⟩
    ·have hv : v1 = .iface 147 (.agg #[.slice ra q rc]) := by rw [HV.out, ← HKL.out]; rfl
     subst hv
     have hq2 : 2 ≤ q := by have := HKL.out; omega
     have hq3 : ¬ (q : Int) = 0 := by omega
     have hq4 : ((q : Int) == 0) = false := by simpa using hq3
     go_wp2_with fail
     rw [types144]
     refine (kidsMany_any ra q rc wr).mono ?_
     rintro e w2 ⟨rfl, HB2⟩
     go_wp2_with fail
     go_meet
     case rel => exact ⟨by rw [decide_eq_false (show ¬ q = 0 by omega)], HB2⟩
    ·have hv : v1 = .iface 149 (.agg #[.slice ra q rc]) := by rw [HV.out, ← HKL.out]; rfl
     subst hv
     have hq2 : 2 ≤ q := by have := HKL.out; omega
     have hq3 : ¬ (q : Int) = 0 := by omega
     have hq4 : ((q : Int) == 0) = false := by simpa using hq3
     go_wp2_with fail
     rw [types144]
     refine (kidsMany_any ra q rc wr).mono ?_
     rintro e w2 ⟨rfl, HB2⟩
     go_wp2_with fail
     go_meet
     case rel => exact ⟨by rw [decide_eq_false (show ¬ q = 0 by omega)], HB2⟩
    ·obtain ⟨v, HVV⟩ : ∃ v, Hid (v = ks.getD 0 0) := ⟨_, rfl⟩
     have hv : v1 = .iface 154 (.agg #[.int .i64 v]) := by rw [HV.out, HVV.out]; rfl
     subst hv
     have HKN : Hid (ks = [v]) := one_row h4 HVV.out
     obtain rfl : q = 1 := by have := HKL.out; omega
     go_wp2_with fail
     rw [types149]
     refine (kidsOne_any v wr).mono ?_
     rintro e w2 ⟨g2, rfl, HG2, HB2⟩
     go_wp2_with fail
     go_meet
     case rel => exact ⟨rfl, HB2⟩
    ·obtain ⟨v, HVV⟩ : ∃ v, Hid (v = ks.getD 0 0) := ⟨_, rfl⟩
     have hv : v1 = .iface 155 (.agg #[.int .i64 v]) := by rw [HV.out, HVV.out]; rfl
     subst hv
     have HKN : Hid (ks = [v]) := one_row h4 HVV.out
     obtain rfl : q = 1 := by have := HKL.out; omega
     go_wp2_with fail
     rw [types149]
     refine (kidsOne_any v wr).mono ?_
     rintro e w2 ⟨g2, rfl, HG2, HB2⟩
     go_wp2_with fail
     go_meet
     case rel => exact ⟨rfl, HB2⟩
    ·obtain ⟨v, HVV⟩ : ∃ v, Hid (v = ks.getD 0 0) := ⟨_, rfl⟩
     have hv : v1 = .iface 156 (.agg #[.int .i64 v]) := by rw [HV.out, HVV.out]; rfl
     subst hv
     have HKN : Hid (ks = [v]) := one_row h4 HVV.out
     obtain rfl : q = 1 := by have := HKL.out; omega
     go_wp2_with fail
     rw [types149]
     refine (kidsOne_any v wr).mono ?_
     rintro e w2 ⟨g2, rfl, HG2, HB2⟩
     go_wp2_with fail
     go_meet
     case rel => exact ⟨rfl, HB2⟩
   case rest =>
    obtain ⟨rfl, HBC⟩ := hcut
    clear hp
    by_cases hq0 : q = 0
    ·rw [show decide (q = 0) = true from decide_eq_true hq0]
     have HC0 : Hid (cJ l ks 0 = 1) := by show (if ks.length = 0 then 1 else 0) = _; rw [if_pos (by rw [HKL.out]; exact hq0)]
     clear hq0
     go_upto_region 8 with fail
     go_cut [21, 22, 23] (fun s m z wd => ∃ a' c', s = .slice a' q c' ∧ m = .int .i64 q ∧ z = .int .i64 0 ∧ Hid (RowIn 0 wd.heap.size wd a' ks) ∧ Hid (Below wr.heap.size wr wd))
     case first =>
      have HRC : Hid (RowIn lo hi wc ra ks) := HRW.out.below HBC.out (Nat.le_trans HH.out HSR.out)
      have HSC : Hid (wr.heap.size ≤ wc.heap.size) := HBC.out.size
      rcases formOk_cases HF.out with ⟨rfl, h3, h4⟩ | ⟨rfl, rfl, h4⟩ | ⟨rfl, rfl, h4⟩ | ⟨rfl, rfl, h4⟩ | ⟨rfl, rfl, h4⟩ | ⟨rfl, rfl, h4⟩
      ·have hv : v1 = .iface 142 (.agg #[.int .u8 y]) := HV.out
       subst hv
       have HKN : Hid (ks = []) := List.length_eq_zero_iff.1 h4
       obtain rfl : q = 0 := by have := HKL.out; omega
       go_wp2_with fail
       refine (kidsStep_any y wc).mono ?_
       rintro e w2 ⟨rfl, HB2⟩
       go_wp2_with fail
       go_meet
       case rel => exact ⟨none, 0, rfl, rfl, rfl, .inl HKN.out, HBC.out.trans (HB2.out.mono HSC.out)⟩
      ·have hv : v1 = .iface 147 (.agg #[.slice ra q rc]) := by rw [HV.out, ← HKL.out]; rfl
       subst hv
       have hq2 : 2 ≤ q := by have := HKL.out; omega
       have hq3 : ¬ (q : Int) = 0 := by omega
       have hq4 : ((q : Int) == 0) = false := by simpa using hq3
       go_wp2_with fail
       rw [types144]
       refine (kidsMany_any ra q rc wc).mono ?_
       rintro e w2 ⟨rfl, HB2⟩
       go_wp2_with fail
       go_meet
       case rel => exact ⟨ra, rc, rfl, rfl, rfl, (HRC.out.below HB2.out (by have := HH.out; have := HSR.out; have := HSC.out; omega)).wide (Nat.zero_le _) (by have := HH.out; have := HSR.out; have := HSC.out; have := HB2.out.size; omega), HBC.out.trans (HB2.out.mono HSC.out)⟩
      ·have hv : v1 = .iface 149 (.agg #[.slice ra q rc]) := by rw [HV.out, ← HKL.out]; rfl
       subst hv
       have hq2 : 2 ≤ q := by have := HKL.out; omega
       have hq3 : ¬ (q : Int) = 0 := by omega
       have hq4 : ((q : Int) == 0) = false := by simpa using hq3
       go_wp2_with fail
       rw [types144]
       refine (kidsMany_any ra q rc wc).mono ?_
       rintro e w2 ⟨rfl, HB2⟩
       go_wp2_with fail
       go_meet
       case rel => exact ⟨ra, rc, rfl, rfl, rfl, (HRC.out.below HB2.out (by have := HH.out; have := HSR.out; have := HSC.out; omega)).wide (Nat.zero_le _) (by have := HH.out; have := HSR.out; have := HSC.out; have := HB2.out.size; omega), HBC.out.trans (HB2.out.mono HSC.out)⟩
      ·obtain ⟨v, HVV⟩ : ∃ v, Hid (v = ks.getD 0 0) := ⟨_, rfl⟩
       have hv : v1 = .iface 154 (.agg #[.int .i64 v]) := by rw [HV.out, HVV.out]; rfl
       subst hv
       have HKN : Hid (ks = [v]) := one_row h4 HVV.out
       obtain rfl : q = 1 := by have := HKL.out; omega
       go_wp2_with fail
       rw [types149]
       refine (kidsOne_any v wc).mono ?_
       rintro e w2 ⟨g2, rfl, HG2, HB2⟩
       go_wp2_with fail
       go_meet
       case rel => exact ⟨some ⟨g2, 0, none⟩, 1, rfl, rfl, rfl, by rw [HKN.out]; exact HG2, HBC.out.trans (HB2.out.mono HSC.out)⟩
      ·obtain ⟨v, HVV⟩ : ∃ v, Hid (v = ks.getD 0 0) := ⟨_, rfl⟩
       have hv : v1 = .iface 155 (.agg #[.int .i64 v]) := by rw [HV.out, HVV.out]; rfl
       subst hv
       have HKN : Hid (ks = [v]) := one_row h4 HVV.out
       obtain rfl : q = 1 := by have := HKL.out; omega
       go_wp2_with fail
       rw [types149]
       refine (kidsOne_any v wc).mono ?_
       rintro e w2 ⟨g2, rfl, HG2, HB2⟩
       go_wp2_with fail
       go_meet
       case rel => exact ⟨some ⟨g2, 0, none⟩, 1, rfl, rfl, rfl, by rw [HKN.out]; exact HG2, HBC.out.trans (HB2.out.mono HSC.out)⟩
      ·obtain ⟨v, HVV⟩ : ∃ v, Hid (v = ks.getD 0 0) := ⟨_, rfl⟩
       have hv : v1 = .iface 156 (.agg #[.int .i64 v]) := by rw [HV.out, HVV.out]; rfl
       subst hv
       have HKN : Hid (ks = [v]) := one_row h4 HVV.out
       obtain rfl : q = 1 := by have := HKL.out; omega
       go_wp2_with fail
       rw [types149]
       refine (kidsOne_any v wc).mono ?_
       rintro e w2 ⟨g2, rfl, HG2, HB2⟩
       go_wp2_with fail
       go_meet
       case rel => exact ⟨some ⟨g2, 0, none⟩, 1, rfl, rfl, rfl, by rw [HKN.out]; exact HG2, HBC.out.trans (HB2.out.mono HSC.out)⟩
     case rest =>
      obtain ⟨a', c', rfl, rfl, rfl, HRI, HBD⟩ := hcut
      go_wp2
      go_loopw [23, 6] (fun i v we => ∃ j : Nat, i = .int .i64 (j : Int) ∧ v = .int .i64 (cJ l ks j : Int) ∧ j ≤ q ∧ we = wc) (fun i _ _ => q - (intOf i).toNat)
      case atStart => exact ⟨0, rfl, by rw [HC0.out]; rfl, by omega, rfl⟩
      case round =>
       obtain ⟨j, rfl, rfl, hj, rfl⟩ := hrel
       by_cases hjq : j < q
       ·have hj1 : (j : Int) < (q : Int) := by omega
        have hj0 : (0 : Int) ≤ (j : Int) := by omega
        obtain ⟨z, hz, hzk⟩ := HKO.out j hjq
        obtain ⟨rb, ro, rfl, hr⟩ := HRI.out.num (i := j) (by rw [HKL.out]; exact hjq)
        rw [hz] at hr
        obtain ⟨cg, rfl, _, hcl, hcc⟩ := HCC.out (by omega)
        have hcz := cell_below (hcc z hzk) HBD.out hcl
        rw [show (rowCells (csL l k)).getD z (.int .i64 0) = .int .i64 (cS l z : Int) by rw [← csL_at l hzk]; simp [rowCells, List.getD, csL_len, hzk]] at hcz
        obtain ⟨p, HP⟩ : ∃ p, Hid (p = cJ l ks j) := ⟨_, rfl⟩
        obtain ⟨c, HCS⟩ : ∃ c, Hid (c = cS l z) := ⟨_, rfl⟩
        rw [← HP.out]
        rw [← HCS.out] at hcz
        have hple : p ≤ 24 := by rw [HP.out]; exact cJ_le _ _ _
        have hcle : c ≤ 24 := by rw [HCS.out]; exact cS_le _ _
        have HNX : Hid (cJ l ks (j + 1) = min (p + c) 24) := by show _ = _; show min (cJ l ks j + cS l (ks.getD j 0).toNat) 24 = _; rw [HP.out, HCS.out, hz, show ((z : Int)).toNat = z by omega]
        have hz0 : (0 : Int) ≤ (z : Int) := by omega
        have hz1 : (z : Int) < (k : Int) := by omega
        have hw1 : IntKind.i64.wrap ((p : Int) + (c : Int)) = (p : Int) + (c : Int) := by simp [IntKind.wrap, IntKind.bits, IntKind.signed]; omega
        clear hz hcc hcl
        go_wp2
        go_roundw
        case rel => exact ⟨j + 1, by go_num, by rw [HNX.out]; congr 1; omega, by omega, by first | rfl | trivial⟩
        case measure => simp [intOf]; omega
       ·obtain rfl : j = q := by omega
        have HE : Hid (cJ l ks j = cS l k) := HCJ.out
        rw [HE.out]
        have hown := (own_below HO.out HBD.out).alloc (.cells #[.int .i64 (cS l k : Int)] 3)
        have hlt9 := hown.lt
        have HSD : Hid (w.heap.size ≤ wr.heap.size) := Nat.le_trans HSR.out HBD.out.size
        have HBW := HBR.out.trans (HBD.out.mono HSR.out)
        go_wp2_with (at_builtin; refine wpList_append_lies _ rfl (.tmp 35) (.tmp 37) 36 rfl w.heap.size 3 i3 (.int .i64 0) 1 8 Tryz.underlying36 hi3 hz30 hz31 hz32 rfl (by decide) (.slice ca k cc) k (rowCells (csL l k)) rfl hown ⟨_, 0, none⟩ 1 1 [.int .i64 (cS l k : Int)] rfl rfl (news_new1 _ (.int .i64 (cS l k : Int)) 3) (by simp [Value.oneCell']) (by decide) (by unfold maxLen; omega) (by omega) (by have := HSD.out; simp; omega) _ rfl ?_)
        intro g5 cap5 w6 hown5 hgrow5 hloc5 hg5
        have HO6 : Hid (w6.ownsRow w.heap.size 3 1 (.slice (some ⟨g5, 0, none⟩) (k + 1) cap5) (k + 1) (rowCells (csL l (k + 1)))) := by show World.ownsRow _ _ _ _ _ _ _; rw [show rowCells (csL l (k + 1)) = rowCells (csL l k) ++ [.int .i64 (cS l k : Int)] from rowCells_snoc _ _]; exact hown5
        have HB6 : Hid (Below w.heap.size w w6) := (HBW.alloc (by have := HSD.out; omega) _).trans (own_grown hgrow5 (fun c hc => (hlt9 c hc).1) (by have := HSD.out; simp; omega))
        clear hown hlt9 hown5 hgrow5 hloc5 hg5 HBW
        go_wp2
        go_roundw
        case rel => exact ⟨k + 1, by go_num, by omega, HO6, HB6⟩
        case measure => simp [intOf]; omega
    ·rw [show decide (q = 0) = false from decide_eq_false hq0]
     have HC0 : Hid (cJ l ks 0 = 0) := by show (if ks.length = 0 then 1 else 0) = _; rw [if_neg (by rw [HKL.out]; exact hq0)]
     clear hq0
     go_upto_region 8 with fail
     go_cut [21, 22, 23] (fun s m z wd => ∃ a' c', s = .slice a' q c' ∧ m = .int .i64 q ∧ z = .int .i64 0 ∧ Hid (RowIn 0 wd.heap.size wd a' ks) ∧ Hid (Below wr.heap.size wr wd))
     case first =>
      have HRC : Hid (RowIn lo hi wc ra ks) := HRW.out.below HBC.out (Nat.le_trans HH.out HSR.out)
      have HSC : Hid (wr.heap.size ≤ wc.heap.size) := HBC.out.size
      rcases formOk_cases HF.out with ⟨rfl, h3, h4⟩ | ⟨rfl, rfl, h4⟩ | ⟨rfl, rfl, h4⟩ | ⟨rfl, rfl, h4⟩ | ⟨rfl, rfl, h4⟩ | ⟨rfl, rfl, h4⟩
      ·have hv : v1 = .iface 142 (.agg #[.int .u8 y]) := HV.out
       subst hv
       have HKN : Hid (ks = []) := List.length_eq_zero_iff.1 h4
       obtain rfl : q = 0 := by have := HKL.out; omega
       go_wp2_with fail
       refine (kidsStep_any y wc).mono ?_
       rintro e w2 ⟨rfl, HB2⟩
       go_wp2_with fail
       go_meet
       case rel => exact ⟨none, 0, rfl, rfl, rfl, .inl HKN.out, HBC.out.trans (HB2.out.mono HSC.out)⟩
      ·have hv : v1 = .iface 147 (.agg #[.slice ra q rc]) := by rw [HV.out, ← HKL.out]; rfl
       subst hv
       have hq2 : 2 ≤ q := by have := HKL.out; omega
       have hq3 : ¬ (q : Int) = 0 := by omega
       have hq4 : ((q : Int) == 0) = false := by simpa using hq3
       go_wp2_with fail
       rw [types144]
       refine (kidsMany_any ra q rc wc).mono ?_
       rintro e w2 ⟨rfl, HB2⟩
       go_wp2_with fail
       go_meet
       case rel => exact ⟨ra, rc, rfl, rfl, rfl, (HRC.out.below HB2.out (by have := HH.out; have := HSR.out; have := HSC.out; omega)).wide (Nat.zero_le _) (by have := HH.out; have := HSR.out; have := HSC.out; have := HB2.out.size; omega), HBC.out.trans (HB2.out.mono HSC.out)⟩
      ·have hv : v1 = .iface 149 (.agg #[.slice ra q rc]) := by rw [HV.out, ← HKL.out]; rfl
       subst hv
       have hq2 : 2 ≤ q := by have := HKL.out; omega
       have hq3 : ¬ (q : Int) = 0 := by omega
       have hq4 : ((q : Int) == 0) = false := by simpa using hq3
       go_wp2_with fail
       rw [types144]
       refine (kidsMany_any ra q rc wc).mono ?_
       rintro e w2 ⟨rfl, HB2⟩
       go_wp2_with fail
       go_meet
       case rel => exact ⟨ra, rc, rfl, rfl, rfl, (HRC.out.below HB2.out (by have := HH.out; have := HSR.out; have := HSC.out; omega)).wide (Nat.zero_le _) (by have := HH.out; have := HSR.out; have := HSC.out; have := HB2.out.size; omega), HBC.out.trans (HB2.out.mono HSC.out)⟩
      ·obtain ⟨v, HVV⟩ : ∃ v, Hid (v = ks.getD 0 0) := ⟨_, rfl⟩
       have hv : v1 = .iface 154 (.agg #[.int .i64 v]) := by rw [HV.out, HVV.out]; rfl
       subst hv
       have HKN : Hid (ks = [v]) := one_row h4 HVV.out
       obtain rfl : q = 1 := by have := HKL.out; omega
       go_wp2_with fail
       rw [types149]
       refine (kidsOne_any v wc).mono ?_
       rintro e w2 ⟨g2, rfl, HG2, HB2⟩
       go_wp2_with fail
       go_meet
       case rel => exact ⟨some ⟨g2, 0, none⟩, 1, rfl, rfl, rfl, by rw [HKN.out]; exact HG2, HBC.out.trans (HB2.out.mono HSC.out)⟩
      ·obtain ⟨v, HVV⟩ : ∃ v, Hid (v = ks.getD 0 0) := ⟨_, rfl⟩
       have hv : v1 = .iface 155 (.agg #[.int .i64 v]) := by rw [HV.out, HVV.out]; rfl
       subst hv
       have HKN : Hid (ks = [v]) := one_row h4 HVV.out
       obtain rfl : q = 1 := by have := HKL.out; omega
       go_wp2_with fail
       rw [types149]
       refine (kidsOne_any v wc).mono ?_
       rintro e w2 ⟨g2, rfl, HG2, HB2⟩
       go_wp2_with fail
       go_meet
       case rel => exact ⟨some ⟨g2, 0, none⟩, 1, rfl, rfl, rfl, by rw [HKN.out]; exact HG2, HBC.out.trans (HB2.out.mono HSC.out)⟩
      ·obtain ⟨v, HVV⟩ : ∃ v, Hid (v = ks.getD 0 0) := ⟨_, rfl⟩
       have hv : v1 = .iface 156 (.agg #[.int .i64 v]) := by rw [HV.out, HVV.out]; rfl
       subst hv
       have HKN : Hid (ks = [v]) := one_row h4 HVV.out
       obtain rfl : q = 1 := by have := HKL.out; omega
       go_wp2_with fail
       rw [types149]
       refine (kidsOne_any v wc).mono ?_
       rintro e w2 ⟨g2, rfl, HG2, HB2⟩
       go_wp2_with fail
       go_meet
       case rel => exact ⟨some ⟨g2, 0, none⟩, 1, rfl, rfl, rfl, by rw [HKN.out]; exact HG2, HBC.out.trans (HB2.out.mono HSC.out)⟩
     case rest =>
      obtain ⟨a', c', rfl, rfl, rfl, HRI, HBD⟩ := hcut
      go_wp2
      go_loopw [23, 6] (fun i v we => ∃ j : Nat, i = .int .i64 (j : Int) ∧ v = .int .i64 (cJ l ks j : Int) ∧ j ≤ q ∧ we = wc) (fun i _ _ => q - (intOf i).toNat)
      case atStart => exact ⟨0, rfl, by rw [HC0.out]; rfl, by omega, rfl⟩
      case round =>
       obtain ⟨j, rfl, rfl, hj, rfl⟩ := hrel
       by_cases hjq : j < q
       ·have hj1 : (j : Int) < (q : Int) := by omega
        have hj0 : (0 : Int) ≤ (j : Int) := by omega
        obtain ⟨z, hz, hzk⟩ := HKO.out j hjq
        obtain ⟨rb, ro, rfl, hr⟩ := HRI.out.num (i := j) (by rw [HKL.out]; exact hjq)
        rw [hz] at hr
        obtain ⟨cg, rfl, _, hcl, hcc⟩ := HCC.out (by omega)
        have hcz := cell_below (hcc z hzk) HBD.out hcl
        rw [show (rowCells (csL l k)).getD z (.int .i64 0) = .int .i64 (cS l z : Int) by rw [← csL_at l hzk]; simp [rowCells, List.getD, csL_len, hzk]] at hcz
        obtain ⟨p, HP⟩ : ∃ p, Hid (p = cJ l ks j) := ⟨_, rfl⟩
        obtain ⟨c, HCS⟩ : ∃ c, Hid (c = cS l z) := ⟨_, rfl⟩
        rw [← HP.out]
        rw [← HCS.out] at hcz
        have hple : p ≤ 24 := by rw [HP.out]; exact cJ_le _ _ _
        have hcle : c ≤ 24 := by rw [HCS.out]; exact cS_le _ _
        have HNX : Hid (cJ l ks (j + 1) = min (p + c) 24) := by show _ = _; show min (cJ l ks j + cS l (ks.getD j 0).toNat) 24 = _; rw [HP.out, HCS.out, hz, show ((z : Int)).toNat = z by omega]
        have hz0 : (0 : Int) ≤ (z : Int) := by omega
        have hz1 : (z : Int) < (k : Int) := by omega
        have hw1 : IntKind.i64.wrap ((p : Int) + (c : Int)) = (p : Int) + (c : Int) := by simp [IntKind.wrap, IntKind.bits, IntKind.signed]; omega
        clear hz hcc hcl
        go_wp2
        go_roundw
        case rel => exact ⟨j + 1, by go_num, by rw [HNX.out]; congr 1; omega, by omega, by first | rfl | trivial⟩
        case measure => simp [intOf]; omega
       ·obtain rfl : j = q := by omega
        have HE : Hid (cJ l ks j = cS l k) := HCJ.out
        rw [HE.out]
        have hown := (own_below HO.out HBD.out).alloc (.cells #[.int .i64 (cS l k : Int)] 3)
        have hlt9 := hown.lt
        have HSD : Hid (w.heap.size ≤ wr.heap.size) := Nat.le_trans HSR.out HBD.out.size
        have HBW := HBR.out.trans (HBD.out.mono HSR.out)
        go_wp2_with (at_builtin; refine wpList_append_lies _ rfl (.tmp 35) (.tmp 37) 36 rfl w.heap.size 3 i3 (.int .i64 0) 1 8 Tryz.underlying36 hi3 hz30 hz31 hz32 rfl (by decide) (.slice ca k cc) k (rowCells (csL l k)) rfl hown ⟨_, 0, none⟩ 1 1 [.int .i64 (cS l k : Int)] rfl rfl (news_new1 _ (.int .i64 (cS l k : Int)) 3) (by simp [Value.oneCell']) (by decide) (by unfold maxLen; omega) (by omega) (by have := HSD.out; simp; omega) _ rfl ?_)
        intro g5 cap5 w6 hown5 hgrow5 hloc5 hg5
        have HO6 : Hid (w6.ownsRow w.heap.size 3 1 (.slice (some ⟨g5, 0, none⟩) (k + 1) cap5) (k + 1) (rowCells (csL l (k + 1)))) := by show World.ownsRow _ _ _ _ _ _ _; rw [show rowCells (csL l (k + 1)) = rowCells (csL l k) ++ [.int .i64 (cS l k : Int)] from rowCells_snoc _ _]; exact hown5
        have HB6 : Hid (Below w.heap.size w w6) := (HBW.alloc (by have := HSD.out; omega) _).trans (own_grown hgrow5 (fun c hc => (hlt9 c hc).1) (by have := HSD.out; simp; omega))
        clear hown hlt9 hown5 hgrow5 hloc5 hg5 HBW
        go_wp2
        go_roundw
        case rel => exact ⟨k + 1, by go_num, by omega, HO6, HB6⟩
        case measure => simp [intOf]; omega
  ·obtain rfl : k = n := by omega
   obtain ⟨cg, rfl, _, hcl, hcc⟩ := HCC.out (by omega)
   obtain ⟨m, rfl⟩ : ∃ m, k = m + 1 := ⟨k - 1, by omega⟩
   have hcz := hcc m (by omega)
   rw [show (rowCells (csL l (m + 1))).getD m (.int .i64 0) = .int .i64 (cS l m : Int) by rw [← csL_at l (Nat.lt_succ_self m)]; simp [rowCells, List.getD, csL_len]] at hcz
   have hk1 : ((m + 1 : Nat) : Int) - 1 = (m : Int) := by omega
   have hm0 : (0 : Int) ≤ (m : Int) := by omega
   have hm1 : (m : Int) < ((m + 1 : Nat) : Int) := by omega
   have hm2 : (m : Int) < (m : Int) + 1 := by omega
   clear hcc hcl
   go_wp2
   go_ret
   exact ⟨rfl, HBR.out⟩
end Go.Proofs.YtbepmeipjdpipaaGreat

namespace Go.Proofs.YtbepmeipjdpipaaGreat
open Go.RowKit
def noM : Nat → Nat → Bool := fun _ _ => false
def sgL (sh lv : Value) : List Value := (List.range 578).map (sgF sh lv noM)
theorem sgL_len (sh lv : Value) : (sgL sh lv).length = 578 := by simp [sgL]
theorem sgL_size (sh lv : Value) : (sgL sh lv).toArray.size = 578 := by simp [sgL]
theorem sgL_one (a b : Option Addr) (n m c d : Nat) : (sgL (.slice a n c) (.slice b m d)).toArray.all (·.oneCell') = true :=
 all_oneCell_toArray fun v hv => by
  obtain ⟨i, _, rfl⟩ := List.mem_map.1 hv
  unfold sgF
  split
  ·rfl
  ·split <;> rfl
theorem sg_new (w : World) (b : Nat) (hb : b = w.heap.size) (sh lv : Value) (T : TypeId) : Blk (w.alloc (.cells (sgL sh lv).toArray T)) b 578 (sgF sh lv noM) := by
 have := blk_new w (sgL sh lv).toArray T (sgF sh lv noM) (fun i hi => by rw [sgL_size] at hi; simp [sgL, hi])
 rw [sgL_size] at this
 rw [hb]; exact this
theorem sg_putAll {w : World} {b : Nat} {sh lv sh' lv' : Value} {bh : Nat → Nat → Bool} (h : Blk w b 578 (sgF sh lv bh)) : Blk (w.setCells b 0 (sgL sh' lv')) b 578 (sgF sh' lv' noM) := by
 refine (Blk.setRange (sgL sh' lv') 0 h (by rw [sgL_len]; omega)).congr fun i hi => ?_
 rw [if_pos ⟨Nat.zero_le _, by rw [sgL_len]; omega⟩]
 simp [sgL, List.getD, hi]
theorem sg_allThere {w : World} {b : Nat} {sh lv : Value} {bh : Nat → Nat → Bool} (h : Blk w b 578 (sgF sh lv bh)) : w.there b 0 578 := fun j hj => ⟨by rw [Nat.zero_add, h.cell hj]; rfl, h.frozen _⟩
set_option maxRecDepth 100000 in
theorem zero_sg : Tryz.zeroCells119 = (sgL (.slice none 0 0) (.slice none 0 0)).toArray := by kernel_rfl
theorem info_sg : (Tryz.prog.info? 119).map (·.size) = some 578 := by kernel_rfl
set_option maxRecDepth 100000 in
theorem build_sg (a b : Option Addr) (n m c d : Nat) (w : World) : (Instr.build 119 #[(0, .slice a n c), (1, .slice b m d)]).run Tryz.prog w = .ok (.agg (sgL (.slice a n c) (.slice b m d)).toArray) w := run_build w 119 _ _ (by kernel_rfl)
theorem own_byte (w : World) (g H : Nat) (hg : g = w.heap.size) (hH : H ≤ g) (x : Int) : (w.alloc (.cells #[.int .u8 x] 5)).ownsRow H 5 1 (.slice (some ⟨g, 0, none⟩) 1 1) 1 (lbV [x]) := by
 subst hg
 exact World.ownsRow_lit w #[.int .u8 x] 1 hH (by unfold maxLen; omega) rfl
def ImPost (ps : List Pc) (w : World) (e : Ending) (w' : World) : Prop :=
 ∃ (s : Int) (aa : Option Addr) (an ac : Nat) (eb : Option Addr) (m mc : Nat), e = .returned (.tuple #[nv s aa an ac eb m mc, .bool (nfG ps)]) ∧ Hid (s = nfSt ps) ∧ Hid ((nfAr ps).length = an) ∧ Hid ((nfEn ps).length = m) ∧ Hid (NfaOwn w.heap.size w'.heap.size w' aa eb (nfAr ps) (nfEn ps)) ∧ Hid (Below w.heap.size w w')
theorem ImPost.no {ps : List Pc} (h : nfG ps = false) {w w' : World} (hb : Below w.heap.size w w') : ImPost ps w (.returned (.tuple #[.agg #[.int .i64 0, .slice none 0 0, .slice none 0 0], .bool false])) w' := by
 have hf : ¬ nfG ps = true := by rw [h]; simp
 refine ⟨0, none, 0, 0, none, 0, 0, by rw [h], ?_, ?_, ?_, ?_, hb⟩
 ·show 0 = _; unfold nfSt; rw [if_neg hf]
 ·show _ = _; unfold nfAr; rw [if_neg hf]; rfl
 ·show _ = _; unfold nfEn; rw [if_neg hf]; rfl
 ·show NfaOwn _ _ _ _ _ _ _; unfold nfAr nfEn; rw [if_neg hf, if_neg hf]; exact ⟨w.heap.size, Nat.le_refl _, hb.size, .inl rfl, .inl rfl⟩
theorem nfB_lt {ps : List Pc} (h : okP ps = true) (hn : nfN ps < 24) {a b : Nat} (hb : nfB ps a b = true) : b ≤ (nfT ps).1.lb.length := by
 obtain ⟨h1, h2⟩ := nfT_tie h hn
 rw [h1.1]
 unfold nfB at hb
 by_cases e : a = 0
 ·rw [if_pos e] at hb
  obtain ⟨t, _, t2, t3⟩ := (nfS_ok h).fi.2 _ ((h2.1 b).1 hb)
  omega
 ·rw [if_neg e] at hb
  obtain ⟨l, hm⟩ := (h1.2 a b).1 hb
  obtain ⟨f, t, _, _, _, a4, e2⟩ := (nfS_ok h).ok.arc _ hm
  simp only [Prod.mk.injEq] at e2
  omega
set_option maxHeartbeats 2000000 in
set_option maxRecDepth 100000 in
theorem implNfaOf_any (lo hi : Nat) (a : Option Addr) (n cap : Nat) (l : List Pc) (w : World) (ha : PathIn lo hi w a l) (hh : hi ≤ w.heap.size) (hn : l.length = n) (hm : n ≤ 1048576) (hq : ∀ i, i < n → (pat l i).2.2.length ≤ 1048576) :
  Calls Tryz.prog 48 #[pv a n cap] w (ImPost l w) := by
 have HN : Hid (l.length = n) := hn
 have HA : Hid (PathIn lo hi w a l) := ha
 have HH : Hid (hi ≤ w.heap.size) := hh
 have HQ : Hid (∀ i, i < n → (pat l i).2.2.length ≤ 1048576) := hq
 clear ha hh hn hq
 obtain ⟨B, HB⟩ : ∃ B, Hid (B = w.heap.size) := ⟨_, rfl⟩
 obtain ⟨W, HW⟩ : ∃ W, Hid (W = (w.alloc (.cells #[.slice a n cap] 73)).alloc (.cells #[.int .i64 0, .slice none 0 0, .slice none 0 0] 80)) := ⟨_, rfl⟩
 have HBW : Hid (Below w.heap.size w W) := by rw [HW.out]; exact below2 w _ _
 have HSW : Hid (W.heap.size = B + 2) := by rw [HW.out, HB.out]; show _ = _; simp
 have HPW : Hid (Blk W B 1 (fun _ => .slice a n cap)) := by rw [HW.out]; exact (blk_one w B HB.out _ _).alloc _
 have HRW : Hid (Blk W (B + 1) 3 (k3 (.int .i64 0) (.slice none 0 0) (.slice none 0 0))) := by rw [HW.out]; exact blk_three _ (B + 1) (by rw [HB.out]; simp) _ _ _ _
 have p0 : W.cell? ⟨B, 0, none⟩ = some (.slice a n cap) := HPW.out.cell (i := 0) (by omega)
 unfold pv
 go_enter Tryz.func48, Tryz.ntmps48
 obtain ⟨FF, HFF⟩ : ∃ F : Func, Hid (F = Tryz.f48) := ⟨_, rfl⟩
 rw [← HFF.out]
 go_upto_region 1 with fail
 rw [← HB.out]
 first | rw [← HW.out] | (rw [show _ = W from HW.out.symm])
 clear HW
 have HCO : Hid (Calls Tryz.prog 64 #[.agg #[.slice a n cap]] W fun e w' => ShsPost lo hi W l e w') := shapesOf_any lo hi a n cap l W (HA.out.below HBW.out HH.out) (Nat.le_trans HH.out HBW.out.size) HN.out hm HQ.out
 have HEND : Hid (∀ (wz : World), Blk wz (B + 1) 3 (k3 (.int .i64 0) (.slice none 0 0) (.slice none 0 0)) → Below w.heap.size w wz → nfG l = false → ImPost l w (.returned (.tuple #[.agg #[.int .i64 0, .slice none 0 0, .slice none 0 0], .bool false])) (wz.setCells (B + 1) 0 [.int .i64 0, .slice none 0 0, .slice none 0 0])) := fun wz hbl hb hg => ImPost.no hg (hb.trans ((bl_set3 wz (B + 1) _ _ _ hbl.lt).mono (by have := HB.out; omega)))
 go_upto_region 2 with (go_at_call 64; refine (HCO.out).mono ?_; rintro e w1 ⟨sv1, ok, rfl, HOK, HSH, HB1⟩)
 have HR1 : Hid (Blk w1 (B + 1) 3 (k3 (.int .i64 0) (.slice none 0 0) (.slice none 0 0))) := HRW.out.of_block (HB1.out.block _ HRW.out.lt)
 have HBW1 : Hid (Below w.heap.size w w1) := HBW.out.trans (HB1.out.mono HBW.out.size)
 clear p0 HCO
 rcases Bool.eq_false_or_eq_true ok with hok | hok
 ·subst hok
  obtain ⟨hn1, hn60, hokl⟩ := okP_all HOK.out.symm
  have HOKL : Hid (∀ i, i < l.length → formOk (pat l i) = true ∧ kidsOk i (pat l i).2.2 = true) := hokl
  rw [HN.out] at hn1 hn60
  clear hokl
  obtain ⟨k, rfl⟩ : ∃ k, n = k + 1 := ⟨n - 1, by omega⟩
  have hk1 : ((k + 1 : Nat) : Int) - 1 = (k : Int) := by omega
  obtain ⟨xs, hxs, hxo⟩ := HSH.out rfl
  rw [HN.out] at hxs hxo
  obtain ⟨sa, sc, rfl, hsc⟩ := own_shape hxo
  obtain ⟨sg, rfl, hsg1, hsg2, hsg3⟩ := hsc (by omega)
  have HXS : Hid (Shs lo hi W xs l (k + 1)) := hxs
  have HXO : Hid (w1.ownsRow W.heap.size 136 1 (.slice (some ⟨sg, 0, none⟩) (k + 1) sc) (k + 1) xs) := hxo
  have HSG : Hid (sg < w1.heap.size ∧ W.heap.size ≤ sg) := ⟨hsg2, hsg1⟩
  have HSC : Hid (∀ j, j < k + 1 → w1.cell? ⟨sg, j, none⟩ = some (xs.getD j .nilIface)) := fun j hj => by
   rw [hsg3 j hj]
   have : j < xs.length := by rw [hxs.1]; exact hj
   simp [List.getD, this]
  clear hxs hxo hsc hsg1 hsg2 hsg3 HSH
  have HCS := Hid_mk (steps_any lo hi W.heap.size (.slice (some ⟨sg, 0, none⟩) (k + 1) sc) (k + 1) xs l w1 (HXS.out.below HB1.out (by have := HH.out; have := HBW.out.size; omega)) HXO.out (by have := HH.out; have := HBW1.out.size; omega) HN.out (by omega) hn60 HOKL.out HQ.out)
  have HCV : Hid (cS l k = min 24 (nfN l)) := by show _ = _; unfold cS nfN; rw [HN.out]; rfl
  obtain ⟨cs, HCC⟩ : ∃ c, Hid (c = cS l k) := ⟨_, rfl⟩
  simp only [Nat.add_sub_cancel] at HCS
  rw [← HCC.out] at HCS HCV
  have hcs24 : cs ≤ 24 := by have := HCV.out; omega
  have hwc : IntKind.i64.wrap (1 + (cs : Int)) = 1 + (cs : Int) := by simp [IntKind.wrap, IntKind.bits, IntKind.signed]; omega
  by_cases hlt : nfN l < 24
  ·have HLT : Hid (nfN l < 24) := hlt
   have HNG : Hid (nfG l = true) := by show _ = _; unfold nfG; rw [← HOK.out, decide_eq_true hlt]; rfl
   have hcc1 : ¬ (1 + (cs : Int)) > 24 := by have := HCV.out; omega
   have hcc2 : ¬ (24 : Int) < 1 + (cs : Int) := by have := HCV.out; omega
   go_upto_region 4 with (go_at_call 65; refine (HCS.out).mono ?_; rintro e w2 ⟨rfl, HB2⟩)
   have HR2 : Hid (Blk w2 (B + 1) 3 (k3 (.int .i64 0) (.slice none 0 0) (.slice none 0 0))) := HR1.out.of_block (HB2.out.block _ HR1.out.lt)
   have HBW2 : Hid (Below w.heap.size w w2) := HBW1.out.trans (HB2.out.mono HBW1.out.size)
   have HBV2 : Hid (Below W.heap.size W w2) := HB1.out.trans (HB2.out.mono HB1.out.size)
   obtain ⟨H, HHH⟩ : ∃ H, Hid (H = w2.heap.size) := ⟨_, rfl⟩
   have HHW : Hid (B + 2 ≤ H ∧ sg < H ∧ hi ≤ H) := by have h1 := HBV2.out.size; have h2 := HSW.out; have h3 := HHH.out; have h4 := HSG.out.1; have h5 := HB2.out.size; have h6 := HH.out; have h7 := HB.out; show _ ∧ _ ∧ _; omega
   obtain ⟨M, HM⟩ : ∃ M, Hid (M = H + 1) := ⟨_, rfl⟩
   obtain ⟨w3, HW3⟩ : ∃ x, Hid (x = ((w2.alloc (.cells #[.int .u8 0] 5)).alloc (.cells Tryz.zeroCells119 119)).setCells M 0 (sgL (.slice (some ⟨sg, 0, none⟩) (k + 1) sc) (.slice (some ⟨H, 0, none⟩) 1 1))) := ⟨_, rfl⟩
   have HT3 : Hid (((w2.alloc (.cells #[.int .u8 0] 5)).alloc (.cells Tryz.zeroCells119 119)).there (w2.heap.size + 1) 0 578) := by
    rw [zero_sg]
    exact sg_allThere (sg_new _ (w2.heap.size + 1) (by simp) _ _ _)
   have HB3 : Hid (Below w2.heap.size w2 w3) := by rw [HW3.out]; exact Below.setCells (by have := HM.out; have := HHH.out; omega) _ _ (below2 w2 _ _)
   have HSG3 : Hid (Sg M H w3 (.slice (some ⟨sg, 0, none⟩) (k + 1) sc) (.slice (some ⟨H, 0, none⟩) 1 1) ⟨[], fun _ _ => false⟩) := by
    refine ⟨?_, ?_, fun e => by simp [Value.ownBlock] at e; have := HM.out; omega⟩
    ·rw [HW3.out, zero_sg]
     exact sg_putAll (sg_new _ M (by rw [HM.out, HHH.out]; simp) _ _ _)
    ·rw [HW3.out]
     exact owns_keptP ((own_byte w2 H H HHH.out (Nat.le_refl _) 0).alloc _) (KeptP.setCells (p := fun c => c = M) (g := M) rfl _ _ (kp_refl _ _)) (fun c e e2 => by simp [Value.ownBlock] at e; have e3 : c = M := e2; have := HM.out; omega)
   have hbd := build_sg (some ⟨sg, 0, none⟩) (some ⟨w2.heap.size, 0, none⟩) (k + 1) 1 sc 1
   go_upto_region 5 with (first | (with_reducible refine wpList_here' ?_; first | (refine wpList_build rfl 119 _ rfl #[(0, .slice (some ⟨sg, 0, none⟩) (k + 1) sc), (1, .slice (some ⟨w2.heap.size, 0, none⟩) 1 1)] (by kernel_rfl) (sgL (.slice (some ⟨sg, 0, none⟩) (k + 1) sc) (.slice (some ⟨w2.heap.size, 0, none⟩) 1 1)).toArray hbd ?_) | (refine wpList_store_mid rfl 119 _ _ rfl (w2.heap.size + 1) 0 (sgL (.slice (some ⟨sg, 0, none⟩) (k + 1) sc) (.slice (some ⟨w2.heap.size, 0, none⟩) 1 1)).toArray rfl rfl (by rw [sgL_size]; exact HT3.out) (by rw [sgL_size]; exact info_sg) (sgL_one _ _ _ _ _ _) ?_; dsimp only [Act.put])))
   rw [← HHH.out, show H + 1 = M from HM.out.symm]
   first | rw [← HW3.out] | (rw [show _ = w3 from HW3.out.symm])
   clear hbd HT3 HW3 HCS hwc hcc1 hcc2
   have HSM3 : Hid (ShM lo hi sg (k + 1) xs l w3) := by
    have hb3 : Below W.heap.size W w3 := HBV2.out.trans (HB3.out.mono HBV2.out.size)
    refine ⟨HXS.out.below hb3 (by have := HH.out; have := HBW.out.size; omega), fun j hj => ?_, ?_, ?_⟩
    ·exact cell_below (cell_below (HSC.out j hj) HB2.out HSG.out.1) HB3.out (by have := HSG.out.1; have := HB2.out.size; omega)
    ·have := HSG.out.1; have := HB2.out.size; have := HB3.out.size; omega
    ·have := HH.out; have := HBW.out.size; have := hb3.size; omega
   have HR3 : Hid (Blk w3 (B + 1) 3 (k3 (.int .i64 0) (.slice none 0 0) (.slice none 0 0))) := HR2.out.of_block (HB3.out.block _ HR2.out.lt)
   have HBW3 : Hid (Below w.heap.size w w3) := HBW2.out.trans (HB3.out.mono HBW2.out.size)
   obtain ⟨t, HTT⟩ : ∃ t, Hid (t = (nfT l).1) := ⟨_, rfl⟩
   obtain ⟨y, HYY⟩ : ∃ y, Hid (y = (nfT l).2) := ⟨_, rfl⟩
   have HCT : Hid (Calls Tryz.prog 66 #[.pointer (some ⟨M, 0, none⟩), .int .i64 (k : Int)] w3 (SeatPost M H w3 (.slice (some ⟨sg, 0, none⟩) (k + 1) sc) (.slice (some ⟨H, 0, none⟩) 1 1) (t, y))) := by
    have h := seat_any lo hi M H sg (k + 1) sc xs l HHW.out.2.2 HHW.out.2.1 (by have := HM.out; omega) HN.out HOKL.out HQ.out (k + 1) k (by omega) (by omega) ⟨[], fun _ _ => false⟩ (.slice (some ⟨H, 0, none⟩) 1 1) w3 HSM3.out HSG3.out (by
     have h2 := HLT.out
     unfold nfN at h2
     rw [HN.out] at h2
     show 0 + _ ≤ 23
     simp only [Nat.add_sub_cancel] at h2
     omega)
    have e : seatB l (k + 1) k ⟨[], fun _ _ => false⟩ = (t, y) := by rw [HTT.out, HYY.out]; unfold nfT; rw [HN.out]; rfl
    rw [e] at h
    exact h
   obtain ⟨YF, YG, ynl⟩ := y
   go_upto_region 6 with (first | (go_at_call 66; refine (HCT.out).mono ?_; rintro e w4 ⟨lv4, rfl, HSG4, HK4, HNB4⟩; have HDT := Hid_mk ((BBlk.zero49 w4 _ rfl 121).there 0 49 (by omega))) | (with_reducible refine wpList_here' ?_; first | (refine wpList_store_mid rfl 121 _ _ rfl w4.heap.size 0 (bcells 49 (stF ynl YF YG)).toArray rfl rfl (by rw [bcells_size]; exact HDT.out) (by rw [bcells_size]; exact info_st) (bcells_one _ _) ?_; dsimp only [Act.put])))
   have HKM : Hid (KeptP (fun c => c = M ∨ (Value.slice (some ⟨H, 0, none⟩) 1 1).ownBlock = some c) w3 w4) := HK4
   obtain ⟨P, HP⟩ : ∃ P, Hid (P = w4.heap.size) := ⟨_, rfl⟩
   have HPM : Hid (M < P) := by rw [HP.out]; exact HSG4.out.blk.lt
   have HR4 : Hid (Blk w4 (B + 1) 3 (k3 (.int .i64 0) (.slice none 0 0) (.slice none 0 0))) := HKM.out.blk HR3.out (fun e => by have := HHW.out; have := HM.out; rcases e with e | e; omega; simp [Value.ownBlock] at e; omega)
   have HBW4 : Hid (Below w.heap.size w w4) := HBW3.out.trans (HKM.out.to_below HBW3.out.size (fun c e => by have := HHW.out; have := HM.out; have := HB.out; rcases e with e | e; omega; simp [Value.ownBlock] at e; omega))
   obtain ⟨w5, HW5⟩ : ∃ x, Hid (x = (w4.alloc (.cells #[.bool false, .bool false, .bool false, .bool false, .bool false, .bool false, .bool false, .bool false, .bool false, .bool false, .bool false, .bool false, .bool false, .bool false, .bool false, .bool false, .bool false, .bool false, .bool false, .bool false, .bool false, .bool false, .bool false, .bool false, .bool false, .bool false, .bool false, .bool false, .bool false, .bool false, .bool false, .bool false, .bool false, .bool false, .bool false, .bool false, .bool false, .bool false, .bool false, .bool false, .bool false, .bool false, .bool false, .bool false, .bool false, .bool false, .bool false, .bool false, .bool false] 121)).setCells P 0 (bcells 49 (stF ynl YF YG))) := ⟨_, rfl⟩
   have HB5 : Hid (Below w4.heap.size w4 w5) := by rw [HW5.out]; exact Below.setCells (by have := HP.out; omega) _ _ (below1 w4 _)
   have HP5 : Hid (BBlk w5 P 49 (stF ynl YF YG)) := by rw [HW5.out]; exact (BBlk.zero49 w4 P HP.out _).put _
   have HM5 : Hid (Blk w5 M 578 (sgF (.slice (some ⟨sg, 0, none⟩) (k + 1) sc) lv4 t.bh)) := HSG4.out.blk.of_block (HB5.out.block _ HSG4.out.blk.lt)
   have HL5 : Hid (w5.ownsRow H 5 1 lv4 (t.lb.length + 1) (lbV (0 :: t.lb))) := own_below HSG4.out.lab HB5.out
   rw [← HP.out]
   first | rw [← HW5.out] | (rw [show _ = w5 from HW5.out.symm])
   go_upto_region 7 with (first | (with_reducible refine wpList_here' ?_; first | (refine wpList_load_mid rfl 116 _ rfl P 1 rfl (bcells 24 YF) _ (st_first HP5.out) Tryz.underlying116 rfl (by rw [bcells_len]; exact info_set) ?_) | (refine wpList_store_mid rfl 116 _ _ rfl M 2 (bcells 24 YF).toArray rfl rfl (by rw [bcells_size]; exact sg_there HM5.out (a := 0) (by omega)) (by rw [bcells_size]; exact info_set) (bcells_one _ _) ?_; dsimp only [Act.put])))
   obtain ⟨w6, HW6⟩ : ∃ x, Hid (x = w5.setCells M 2 (bcells 24 YF)) := ⟨_, rfl⟩
   have HK6 : Hid (KeptP (fun c => c = M) w5 w6) := by rw [HW6.out]; exact KeptP.setCells (p := fun c => c = M) (g := M) rfl _ _ (kp_refl _ _)
   have HM6 : Hid (Blk w6 M 578 (sgF (.slice (some ⟨sg, 0, none⟩) (k + 1) sc) lv4 fun x => if x = 0 then YF else t.bh x)) := by rw [HW6.out]; exact sg_put HM5.out (a := 0) (by omega) YF
   have HP6 : Hid (BBlk w6 P 49 (stF ynl YF YG)) := HK6.out.blk HP5.out (by have := HPM.out; omega)
   have HL6 : Hid (w6.ownsRow H 5 1 lv4 (t.lb.length + 1) (lbV (0 :: t.lb))) := owns_keptP HL5.out HK6.out (fun c e e2 => HSG4.out.off (by have e3 : c = M := e2; rw [← e3]; exact e))
   first | rw [← HW6.out] | (rw [show _ = w6 from HW6.out.symm])
   have n0 := st_null HP6.out
   have n1 := HP6.out.get (k := 25) (by omega)
   have nf := Blk.frozen HP6.out 25
   go_upto_region 8 with fail
   clear n0 n1 nf
   obtain ⟨w7, HW7⟩ : ∃ x, Hid (x = w6.setCell ⟨P, 25, none⟩ (.bool ynl)) := ⟨_, rfl⟩
   have HK7 : Hid (KeptP (fun c => c = P) w6 w7) := by rw [HW7.out]; exact kp_set _ _ _ _
   have HM7 : Hid (Blk w7 M 578 (sgF (.slice (some ⟨sg, 0, none⟩) (k + 1) sc) lv4 fun x => if x = 0 then YF else t.bh x)) := HK7.out.blk HM6.out (by have := HPM.out; omega)
   have HP7 : Hid (BBlk w7 P 49 (stF ynl YF (fun i => if i = 0 then ynl else YG i))) := by
    rw [HW7.out]
    refine (HP6.out.set1 (k := 25) (by omega) ynl).congr fun i hi => ?_
    unfold stF
    by_cases e : i = 25
    ·subst e; rfl
    ·rw [if_neg e]
     by_cases e0 : i = 0
     ·rw [if_pos e0, if_pos e0]
     ·by_cases e1 : i < 25
      ·rw [if_neg e0, if_pos e1, if_neg e0, if_pos e1]
      ·rw [if_neg e0, if_neg e1, if_neg e0, if_neg e1]
       show YG (i - 25) = if i - 25 = 0 then ynl else YG (i - 25)
       rw [if_neg (by omega)]
   have HPL : Hid (∀ c, lv4.ownBlock = some c → c < P) := fun c e => by have := (HSG4.out.lab.lt c e).2; rw [HP.out]; exact this
   have HL7 : Hid (w7.ownsRow H 5 1 lv4 (t.lb.length + 1) (lbV (0 :: t.lb))) := owns_keptP HL6.out HK7.out (fun c e e2 => by have := HPL.out c e; have e3 : c = P := e2; omega)
   first | rw [← HW7.out] | (rw [show _ = w7 from HW7.out.symm])
   have HBW7 : Hid (Below w.heap.size w w7) := (HBW4.out.trans (HB5.out.mono HBW4.out.size)).trans (((HK6.out.to_below (B := w.heap.size) (by have := HBW4.out.size; have := HB5.out.size; omega) (fun c e => by have e2 : c = M := e; have := HM.out; have := HHW.out; have := HB.out; omega)).trans (HK7.out.to_below (by have := HBW4.out.size; have := HB5.out.size; have := HK6.out.size; omega) (fun c e => by have e2 : c = P := e; have := HP.out; have := HBW4.out.size; omega))))
   have HR7 : Hid (Blk w7 (B + 1) 3 (k3 (.int .i64 0) (.slice none 0 0) (.slice none 0 0))) := HK7.out.blk (HK6.out.blk (HR4.out.of_block (HB5.out.block _ HR4.out.lt)) (by have := HM.out; have := HHW.out; omega)) (by have := HPM.out; have := HM.out; have := HHW.out; omega)
   have HLT2 : Hid (t.lb.length ≤ 23 ∧ t.lb.length = (nfS l).1.lb.length) := by
    have h1 := nfS_len HOK.out.symm
    have h2 := (nfT_tie HOK.out.symm HLT.out).1.1
    rw [← HTT.out] at h2
    have := HLT.out
    show _ ∧ _
    rw [h2]
    omega
   clear HW5 HW6 HW7 HB5 HP5 HM5 HL5 HK6 HM6 HP6 HL6 HR3 HBW3 HR2 HBW2 HBV2 HB3 HSG3 HSM3 HCT HB2 HKM HK4 HR4 HBW4
   obtain ⟨la4, lc4, rfl, _⟩ := own_shape HL7.out
   have m1 : w7.cell? ⟨M, 1, none⟩ = some (.slice la4 (t.lb.length + 1) lc4) := HM7.out.cell (i := 1) (by omega)
   obtain ⟨q, HQQ⟩ : ∃ q, Hid (q = t.lb.length + 1) := ⟨_, rfl⟩
   rw [← HQQ.out] at m1
   have hq24 : (q : Int) ≤ 24 := by have := HQQ.out; have := HLT2.out.1; omega
   have hq0 : (0 : Int) ≤ (q : Int) := by omega
   go_upto_region 9 with fail
   clear m1
   have HSG7 : Hid (Sg M H w7 (.slice (some ⟨sg, 0, none⟩) (k + 1) sc) (.slice la4 q lc4) ⟨t.lb, fun x => if x = 0 then YF else t.bh x⟩) := by
    refine ⟨by rw [HQQ.out]; exact HM7.out, by rw [HQQ.out]; exact HL7.out, ?_⟩
    have h := HSG4.out.off
    cases la4 with
    | none => simp [Value.ownBlock]
    | some ad => simpa [Value.ownBlock] using h
   have HBE : Hid ((fun x => if x = 0 then YF else t.bh x) = nfB l) := by
    show _ = _
    funext x y
    unfold nfB
    rw [← HTT.out, ← HYY.out]
    by_cases e : x = 0 <;> simp [e]
   rw [HBE.out] at HSG7
   have HCA : Hid (∀ w0, Below w7.heap.size w7 w0 → Calls Tryz.prog 67 #[.pointer (some ⟨M, 0, none⟩)] w0 fun e w' => ∃ (a' : Option Addr) (n' c' : Nat), e = .returned (.slice a' n' c') ∧ Hid ((nfA l).length = n') ∧ Hid (EdgesOwn w0.heap.size w'.heap.size w' a' (nfA l)) ∧ Hid (Below w0.heap.size w0 w')) := fun w0 h => by
    have hs : Sg M H w0 (.slice (some ⟨sg, 0, none⟩) (k + 1) sc) (.slice la4 q lc4) ⟨t.lb, nfB l⟩ := ⟨HSG7.out.blk.of_block (h.block _ HSG7.out.blk.lt), own_below HSG7.out.lab h, HSG7.out.off⟩
    refine (arcs_any M H _ _ _ w0 hs HLT2.out.1 (fun a b _ _ hb => by have h := nfB_lt HOK.out.symm HLT.out hb; rw [← HTT.out] at h; exact h)).mono ?_
    rintro e w' ⟨a', n', c', L, rfl, h1, h2, h3, h4⟩
    have hL : L = nfA l := arcs_are HOK.out.symm HLT.out (by rw [← HTT.out]; exact h2.out.1) h2.out.2
    subst hL
    exact ⟨a', n', c', rfl, h1, h3, h4⟩
   have HEN : Hid (nfE l = (List.range q).map fun i => if i = 0 then ynl else YG i) := by
    show _ = _
    unfold nfE
    rw [← HLT2.out.2, ← HQQ.out]
    refine List.map_congr_left fun i _ => ?_
    have h := ends_are HOK.out.symm HLT.out i
    rw [← HYY.out] at h
    exact h.symm
   have HEL : Hid ((nfE l).length = q) := by show _ = _; rw [HEN.out]; simp
   have HPC : Hid (∀ i, i < q → w7.cell? ⟨P, 25 + i, none⟩ = some (.bool ((nfE l).getD i false))) := fun i hi => by
    have h := HP7.out.get (k := 25 + i) (by have := HQQ.out; have := HLT2.out.1; omega)
    rw [h, stF_last, HEN.out]
    simp [List.getD, hi]
   have HP7L : Hid (P < w7.heap.size) := HP7.out.lt
   clear HM7 HL7 HP7 HSG4
   obtain ⟨V, HV⟩ : ∃ V, Hid (V = w7.drew) := ⟨_, rfl⟩
   have HBD : Hid (Below w7.heap.size w7 V) := by rw [HV.out]; exact (Below.refl _ _).drew
   refine wp_region_held_drew (S := fun _ => True) (by kernel_rfl) trivial (fun hHeld => ?_)
   rw [← HV.out]
   refine wpAnyH_take (i := 0) (oi := { dst := some 41, op := Op.move (.tmp 8), type := 3, pos := "l07_nfa.go:58", after := #[], guard := none }) (v := ?_) rfl (by kernel_rfl) (by kernel_rfl) (by kernel_rfl) (fun _ _ _ h => h) (Or.inl ⟨by kernel_rfl, ?_⟩) (by assumption) ?_
   rotate_left
   ·intro w hSw; (try dsimp only at hSw); go_simp; try with_reducible rfl
   simp only [Act.put, List.setIfInBounds_toArray, List.set_cons_zero, List.set_cons_succ]
   refine wpAnyH_take (i := 2) (oi := { dst := some 43, op := Op.fieldAddr 121 (.tmp 7) 2, type := 0, pos := "l07_nfa.go:58", after := #[], guard := none }) (v := ?_) rfl (by kernel_rfl) (by kernel_rfl) (by kernel_rfl) (fun _ _ _ h => h) (Or.inl ⟨by kernel_rfl, ?_⟩) (by assumption) ?_
   rotate_left
   ·intro w hSw; (try dsimp only at hSw); go_simp; try with_reducible rfl
   simp only [Act.put, List.setIfInBounds_toArray, List.set_cons_zero, List.set_cons_succ]
   refine wpAnyH_take (i := 3) (oi := { dst := some 44, op := Op.move (.tmp 8), type := 3, pos := "l07_nfa.go:58", after := #[], guard := none }) (v := ?_) rfl (by kernel_rfl) (by kernel_rfl) (by kernel_rfl) (fun _ _ _ h => h) (Or.inl ⟨by kernel_rfl, ?_⟩) (by assumption) ?_
   rotate_left
   ·intro w hSw; (try dsimp only at hSw); go_simp; try with_reducible rfl
   simp only [Act.put, List.setIfInBounds_toArray, List.set_cons_zero, List.set_cons_succ]
   refine wpAnyH_take (i := 4) (oi := { dst := some 45, op := Op.slice 116 (.tmp 43) none (some (.tmp 44)) none, type := 78, pos := "l07_nfa.go:58", after := #[{ on := 2, ground := .data }, { on := 3, ground := .data }], guard := none }) (v := ?_) rfl (by kernel_rfl) (by kernel_rfl) (by kernel_rfl) (fun _ _ _ h => h) (Or.inl ⟨by kernel_rfl, ?_⟩) (by assumption) ?_
   rotate_left
   ·intro w hSw; (try dsimp only at hSw); go_simp; try with_reducible rfl
   simp only [Act.put, List.setIfInBounds_toArray, List.set_cons_zero, List.set_cons_succ]
   refine wpAnyH_ready (rs := [1]) (by kernel_rfl) (by simp) ?_
   refine AllReadyH.cons (o := { dst := some 42, op := Op.call { callee := Callee.value (.func 67), args := #[.tmp 6], argTypes := #[119] }, type := 77, pos := "l07_nfa.go:58", after := #[], guard := none }) rfl (fun K hK => ?_) ?_
   ·go_simp
    go_wp2_with (go_at_call 67; refine (HCA.out _ HBD.out).mono ?_; rintro e w8 ⟨a8, n8, c8, rfl, HN8, HE8, HB8⟩)
    have HBV8 : Hid (Below w7.heap.size w7 w8) := HBD.out.trans (HB8.out.mono HBD.out.size)
    refine hK.out _ _ trivial (fun hHeld => ?_)
    clear hK K
    try simp only [Act.put, List.setIfInBounds_toArray, List.set_cons_zero, List.set_cons_succ]
    refine wpAnyH_ready (rs := [5]) (by kernel_rfl) (by simp) ?_
    refine AllReadyH.cons (o := { dst := some 46, op := Op.call { callee := Callee.value (.func 68), args := #[.tmp 45], argTypes := #[78] }, type := 78, pos := "l07_nfa.go:58", after := #[{ on := 4, ground := .data }, { on := 1, ground := .chain }], guard := none }) rfl (fun K hK => ?_) ?_
    ·go_simp
     go_wp2_with (go_at_call 68; refine (cloneB_any P 25 q 24 (nfE l) w8 (fun i hi => cell_below (HPC.out i hi) HBV8.out HP7L.out) (by have := HP7L.out; have := HBV8.out.size; omega) HEL.out (by omega)).mono ?_; rintro e w9 ⟨a9, c9, rfl, HE9, HB9⟩)
     have HBV9 : Hid (Below w7.heap.size w7 w9) := HBV8.out.trans (HB9.out.mono HBV8.out.size)
     have HR9 : Hid (Blk w9 (B + 1) 3 (k3 (.int .i64 0) (.slice none 0 0) (.slice none 0 0))) := HR7.out.of_block (HBV9.out.block _ HR7.out.lt)
     refine hK.out _ _ trivial (fun hHeld => ?_)
     clear hK K
     try simp only [Act.put, List.setIfInBounds_toArray, List.set_cons_zero, List.set_cons_succ]
     refine wpAnyH_take (i := 6) (oi := { dst := some 47, op := Op.build 80 #[(0, .tmp 41), (1, .tmp 42), (2, .tmp 46)], type := 80, pos := "l07_nfa.go:58", after := #[{ on := 0, ground := .data }, { on := 1, ground := .data }, { on := 5, ground := .data }], guard := none }) (v := ?_) rfl (by kernel_rfl) (by kernel_rfl) (by kernel_rfl) (fun _ _ _ h => h) (Or.inl ⟨by kernel_rfl, ?_⟩) (by assumption) ?_
     rotate_left
     ·intro w hSw; (try dsimp only at hSw); go_simp; try with_reducible rfl
     simp only [Act.put, List.setIfInBounds_toArray, List.set_cons_zero, List.set_cons_succ]
     refine wpAnyH_ready (rs := [7]) (by kernel_rfl) (by simp) ?_
     refine AllReadyH.cons (o := { dst := none, op := Op.store 80 (.tmp 2) (.tmp 47), type := 0, pos := "l07_nfa.go:58", after := #[{ on := 6, ground := .data }, { on := 5, ground := .chain }, { on := 0, ground := .phase }, { on := 1, ground := .phase }, { on := 2, ground := .phase }, { on := 3, ground := .phase }, { on := 4, ground := .phase }, { on := 5, ground := .phase }, { on := 6, ground := .phase }], guard := none }) rfl (fun K hK => ?_) ?_
     ·have b1 := HR9.out.set 0 (by omega) (.int .i64 (q : Int))
      have b2 := b1.set 1 (by omega) (.slice a8 n8 c8)
      have q0 : w9.cell? ⟨B + 1, 0, none⟩ = some (.int .i64 0) := HR9.out.cell (i := 0) (by omega)
      have q1 : (w9.setCell ⟨B + 1, 0, none⟩ (.int .i64 (q : Int))).cell? ⟨B + 1, 1, none⟩ = some (.slice none 0 0) := b1.cell (i := 1) (by omega)
      have q2 : ((w9.setCell ⟨B + 1, 0, none⟩ (.int .i64 (q : Int))).setCell ⟨B + 1, 1, none⟩ (.slice a8 n8 c8)).cell? ⟨B + 1, 2, none⟩ = some (.slice none 0 0) := b2.cell (i := 2) (by omega)
      have q3 := HR9.out.frozen 0
      have q4 := b1.frozen 1
      have q5 := b2.frozen 2
      clear b1 b2
      go_simp
      refine hK.out _ _ trivial (fun hHeld => ?_)
      clear hK K
      try simp only [Act.put, List.setIfInBounds_toArray, List.set_cons_zero, List.set_cons_succ]
      refine wpAnyH_take (i := 8) (oi := { dst := some 3, op := Op.assign (.const (Value.bool true)), type := 4, pos := "l07_nfa.go:58", after := #[{ on := 7, ground := .chain }, { on := 0, ground := .phase }, { on := 1, ground := .phase }, { on := 2, ground := .phase }, { on := 3, ground := .phase }, { on := 4, ground := .phase }, { on := 5, ground := .phase }, { on := 6, ground := .phase }, { on := 7, ground := .phase }], guard := none }) (v := ?_) rfl (by kernel_rfl) (by kernel_rfl) (by kernel_rfl) (fun _ _ _ h => h) (Or.inl ⟨by kernel_rfl, ?_⟩) (by assumption) ?_
      rotate_left
      ·intro w hSw; (try dsimp only at hSw); go_simp; try with_reducible rfl
      simp only [Act.put, List.setIfInBounds_toArray, List.set_cons_zero, List.set_cons_succ]
      refine wpAnyH_done (by kernel_rfl) ?_ _
      clear hHeld q0 q1 q2 q3 q4 q5
      go_wp2_with fail
      obtain rfl : FF = Tryz.f48 := HFF.out
      refine bodyPost_ret (results_row2 (k := 2) (m := 3) (t := 80) (b := B + 1) Tryz.results48 rfl rfl (load_nfa (k3_put HR9.out _ _ _))) rfl ?_
      show ImPost l w (.returned (.tuple #[.agg #[.int .i64 (q : Int), .slice a8 n8 c8, .slice a9 q c9], .bool true])) (w9.setCells (B + 1) 0 [.int .i64 (q : Int), .slice a8 n8 c8, .slice a9 q c9])
      have hks := kp_set3 w9 (B + 1) (.int .i64 (q : Int)) (.slice a8 n8 c8) (.slice a9 q c9)
      have hB1 : ∀ c, c = B + 1 → w.heap.size ≤ c ∧ c < M := fun c e => by have := HB.out; have := HM.out; have := HHW.out; omega
      have hM7 : M < w7.heap.size := HSG7.out.blk.lt
      refine ⟨(q : Int), a8, n8, c8, a9, q, c9, by rw [HNG.out], ?_, ?_, ?_, ⟨w8.heap.size, ?_, ?_, ?_, ?_⟩, (HBW7.out.trans (HBV9.out.mono HBW7.out.size)).trans (hks.to_below (Nat.le_trans HBW7.out.size HBV9.out.size) (fun c e => (hB1 c e).1))⟩
      ·show _ = _; unfold nfSt; rw [if_pos HNG.out, HQQ.out, HLT2.out.2]
      ·show _ = _; unfold nfAr; rw [if_pos HNG.out]; exact HN8.out
      ·show _ = _; unfold nfEn; rw [if_pos HNG.out]; exact HEL.out
      ·have := HBW7.out.size; have := HBV8.out.size; omega
      ·have := HB9.out.size; have := hks.size; omega
      ·unfold nfAr
       rw [if_pos HNG.out]
       exact ((HE8.out.below HB9.out (Nat.le_refl _)).kept hks (fun c h1 h2 e => by have := hB1 c e; have := HBD.out.size; omega)).wide (by have := HBW7.out.size; have := HBD.out.size; omega) (Nat.le_refl _)
      ·unfold nfEn
       rw [if_pos HNG.out]
       exact (HE9.out.kept hks (fun c h1 h2 e => by have := hB1 c e; have := HBV8.out.size; omega)).wide (Nat.le_refl _) hks.size
     exact AllReadyH.nil
    exact AllReadyH.nil
   exact AllReadyH.nil
  ·have HNG : Hid (nfG l = false) := by show _ = _; unfold nfG; rw [decide_eq_false hlt, Bool.and_false]
   have hcc1 : (1 + (cs : Int)) > 24 := by have := HCV.out; omega
   have hcc2 : (24 : Int) < 1 + (cs : Int) := by have := HCV.out; omega
   go_upto_region 3 with (go_at_call 65; refine (HCS.out).mono ?_; rintro e w2 ⟨rfl, HB2⟩)
   have HR4 : Hid (Blk w2 (B + 1) 3 (k3 (.int .i64 0) (.slice none 0 0) (.slice none 0 0))) := HR1.out.of_block (HB2.out.block _ HR1.out.lt)
   have HBW4 : Hid (Below w.heap.size w w2) := HBW1.out.trans (HB2.out.mono HBW1.out.size)
   have b1 := HR4.out.set 0 (by omega) (.int .i64 0)
   have b2 := b1.set 1 (by omega) (.slice none 0 0)
   have q0 : w2.cell? ⟨B + 1, 0, none⟩ = some (.int .i64 0) := HR4.out.cell (i := 0) (by omega)
   have q1 : (w2.setCell ⟨B + 1, 0, none⟩ (.int .i64 0)).cell? ⟨B + 1, 1, none⟩ = some (.slice none 0 0) := b1.cell (i := 1) (by omega)
   have q2 : ((w2.setCell ⟨B + 1, 0, none⟩ (.int .i64 0)).setCell ⟨B + 1, 1, none⟩ (.slice none 0 0)).cell? ⟨B + 1, 2, none⟩ = some (.slice none 0 0) := b2.cell (i := 2) (by omega)
   have q3 := HR4.out.frozen 0
   have q4 := b1.frozen 1
   have q5 := b2.frozen 2
   clear b1 b2
   go_wp2_with fail
   obtain rfl : FF = Tryz.f48 := HFF.out
   refine bodyPost_ret (results_row2 (k := 2) (m := 3) (t := 80) (b := B + 1) Tryz.results48 rfl rfl (load_nfa (k3_put HR4.out _ _ _))) rfl ?_
   exact HEND.out _ HR4.out HBW4.out HNG.out
 ·subst hok
  have HNG : Hid (nfG l = false) := by show _ = _; unfold nfG; rw [← HOK.out]; rfl
  have HR4 := HR1
  have HBW4 := HBW1
  go_upto_region 3 with fail
  have b1 := HR4.out.set 0 (by omega) (.int .i64 0)
  have b2 := b1.set 1 (by omega) (.slice none 0 0)
  have q0 : w1.cell? ⟨B + 1, 0, none⟩ = some (.int .i64 0) := HR4.out.cell (i := 0) (by omega)
  have q1 : (w1.setCell ⟨B + 1, 0, none⟩ (.int .i64 0)).cell? ⟨B + 1, 1, none⟩ = some (.slice none 0 0) := b1.cell (i := 1) (by omega)
  have q2 : ((w1.setCell ⟨B + 1, 0, none⟩ (.int .i64 0)).setCell ⟨B + 1, 1, none⟩ (.slice none 0 0)).cell? ⟨B + 1, 2, none⟩ = some (.slice none 0 0) := b2.cell (i := 2) (by omega)
  have q3 := HR4.out.frozen 0
  have q4 := b1.frozen 1
  have q5 := b2.frozen 2
  clear b1 b2
  go_wp2_with fail
  obtain rfl : FF = Tryz.f48 := HFF.out
  refine bodyPost_ret (results_row2 (k := 2) (m := 3) (t := 80) (b := B + 1) Tryz.results48 rfl rfl (load_nfa (k3_put HR4.out _ _ _))) rfl ?_
  exact HEND.out _ HR4.out HBW4.out HNG.out
end Go.Proofs.YtbepmeipjdpipaaGreat
