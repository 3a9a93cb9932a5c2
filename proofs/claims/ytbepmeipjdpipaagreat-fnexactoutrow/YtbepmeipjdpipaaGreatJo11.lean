import Derived.Test.YtbepmeipjdpipaaGreatJo06
import Derived.Test.YtbepmeipjdpipaaGreatJo10
import Derived.Deep.DeepAppendRoom
namespace Go.Proofs.YtbepmeipjdpipaaGreat
open Go.RowKit
def atP (x1 : Tx) : List Pc := (readP x1).getD []
theorem atP_len (x1 : Tx) : (atP x1).length ≤ 60 ∧ ∀ i, (pat (atP x1) i).2.2.length ≤ 100 := by
 unfold atP
 cases h : readP x1 with
 | none => exact ⟨by simp, fun i => by simp [pat]⟩
 | some l =>
  obtain ⟨h1, h2⟩ := readP_ok h
  unfold okP at h1
  simp only [Bool.and_eq_true, decide_eq_true_eq] at h1
  refine ⟨h1.1.2, fun i => ?_⟩
  show (pat l i).2.2.length ≤ 100
  by_cases hi : i < l.length
  ·have : pat l i ∈ l := by rw [show pat l i = l[i] by simp [pat, List.getD, hi]]; exact List.getElem_mem hi
   exact h2 _ this
  ·simp [pat, List.getD, hi]
set_option maxHeartbeats 4000000 in
set_option maxRecDepth 100000 in
theorem specAtom_of (x0 x1 x2 : Tx) (w : World) (hs : x0.size ≤ 1048576 ∧ x1.size ≤ 1048576 ∧ x2.size ≤ 1048576)
  (hrd : ∀ w0, Calls Tryz.prog 41 #[.string x1] w0 fun e w' => RPost (readP x1) w0 e w')
  (hnf : ∀ (lo hi : Nat) (a : Option Addr) (n cap : Nat) (w0 : World), PathIn lo hi w0 a (atP x1) → hi ≤ w0.heap.size → (atP x1).length = n → n ≤ 60 → Calls Tryz.prog 43 #[pv a n cap] w0 fun e w' => ∃ (s : Int) (aa : Option Addr) (an ac : Nat) (eb : Option Addr) (m mc : Nat), e = .returned (.tuple #[.agg #[.int .i64 s, .slice aa an ac, .slice eb m mc], .bool (nfG (atP x1))]) ∧ Hid (Below w0.heap.size w0 w')) :
  Calls Tryz.prog 21 #[.agg #[.string x0, .string x1, .string x2]] w fun e w' => e = .returned (.bool (atOk (x0, x1, x2))) ∧ Hid (Below w.heap.size w w') := by
 obtain ⟨B, HB⟩ : ∃ B, Hid (B = w.heap.size) := ⟨_, rfl⟩
 obtain ⟨W, HW⟩ : ∃ W, Hid (W = w.alloc (.cells #[.string x0, .string x1, .string x2] 49)) := ⟨_, rfl⟩
 have HBW : Hid (Below w.heap.size w W) := by rw [HW.out]; exact below1 w _
 have HSW : Hid (W.heap.size = B + 1) := by rw [HW.out, HB.out]; show _ = _; simp
 have HX : Hid (Blk W B 3 (k3 (.string x0) (.string x1) (.string x2))) := by rw [HW.out]; exact blk_three w B HB.out _ _ _ _
 obtain ⟨Z, HZ⟩ : ∃ Z, Hid (Z = readP x1) := ⟨_, rfl⟩
 obtain ⟨P, HP⟩ : ∃ P, Hid (P = atP x1) := ⟨_, rfl⟩
 obtain ⟨u0, HU0⟩ : ∃ b : Bool, Hid (b = qname x0) := ⟨_, rfl⟩
 obtain ⟨u2, HU2⟩ : ∃ b : Bool, Hid (b = qname x2) := ⟨_, rfl⟩
 obtain ⟨u3, HU3⟩ : ∃ b : Bool, Hid (b = nfG P) := ⟨_, rfl⟩
 have HZP : Hid (Z.getD [] = P) := by rw [HZ.out, HP.out]; rfl
 have HPL : Hid (P.length ≤ 60) := by rw [HP.out]; exact (atP_len x1).1
 have HRD : Hid (∀ w0, Calls Tryz.prog 41 #[.string x1] w0 fun e w' => RPost Z w0 e w') := by rw [HZ.out]; exact hrd
 have HNF : Hid (∀ (lo hi : Nat) (a : Option Addr) (n cap : Nat) (w0 : World), PathIn lo hi w0 a P → hi ≤ w0.heap.size → P.length = n → n ≤ 60 → Calls Tryz.prog 43 #[pv a n cap] w0 fun e w' => ∃ (s : Int) (aa : Option Addr) (an ac : Nat) (eb : Option Addr) (m mc : Nat), e = .returned (.tuple #[.agg #[.int .i64 s, .slice aa an ac, .slice eb m mc], .bool u3]) ∧ Hid (Below w0.heap.size w0 w')) := by rw [HU3.out, HP.out]; exact hnf
 have HQN0 : Hid (∀ w0, Calls Tryz.prog 42 #[.string x0] w0 fun e w' => e = .returned (.bool u0) ∧ w0 = w') := fun w0 => by rw [HU0.out]; exact specQName_any x0 x0.size (qname x0) w0 rfl (by omega) rfl
 have HQN2 : Hid (∀ w0, Calls Tryz.prog 42 #[.string x2] w0 fun e w' => e = .returned (.bool u2) ∧ w0 = w') := fun w0 => by rw [HU2.out]; exact specQName_any x2 x2.size (qname x2) w0 rfl (by omega) rfl
 obtain ⟨r, HR⟩ : ∃ b : Bool, Hid (b = atOk (x0, x1, x2)) := ⟨_, rfl⟩
 have HRE : Hid (r = (Z.isSome && u0 && u2 && u3)) := by rw [HR.out, HU0.out, HU2.out, HU3.out, ← HZP.out, HZ.out]; rfl
 rw [← HR.out]
 clear hs hrd hnf HU0 HU2 HU3 HZ HR HP
 go_enter Tryz.func21, Tryz.ntmps21
 obtain ⟨FF, HFF⟩ : ∃ F : Func, Hid (F = Tryz.f21) := ⟨_, rfl⟩
 rw [← HFF.out]
 go_upto_region 1 with fail
 rw [← HB.out]
 first | rw [← HW.out] | (rw [show _ = W from HW.out.symm])
 clear HW
 have c1 : W.cell? ⟨B, 1, none⟩ = some (.string x1) := HX.out.cell (i := 1) (by omega)
 go_upto_region 2 with (go_at_call 41; refine (HRD.out _).mono ?_; rintro e w1 ⟨a', n', c', ok, rfl, HOK, HLP, HPO, HB1⟩)
 clear c1 HRD
 obtain ⟨W2, HW2⟩ : ∃ W2, Hid (W2 = w1.alloc (.cells #[.slice a' n' c'] 73)) := ⟨_, rfl⟩
 obtain ⟨E, HE⟩ : ∃ E, Hid (E = w1.heap.size) := ⟨_, rfl⟩
 have HBX : Hid (Below w1.heap.size w1 W2) := by rw [HW2.out]; exact below1 _ _
 have HX2 : Hid (Blk W2 B 3 (k3 (.string x0) (.string x1) (.string x2))) := (HX.out.of_block (HB1.out.block _ HX.out.lt)).of_block (HBX.out.block _ (Nat.lt_of_lt_of_le HX.out.lt HB1.out.size))
 have HEC : Hid (W2.cell? ⟨E, 0, none⟩ = some (.slice a' n' c')) := by rw [HW2.out, HE.out]; exact cell_new1 _ _ _ _ rfl
 have HBT : Hid (Below w.heap.size w W2) := HBW.out.trans ((HB1.out.trans (HBX.out.mono HB1.out.size)).mono HBW.out.size)
 have HPI : Hid (PathIn W.heap.size W2.heap.size W2 a' P) := by rw [← HZP.out]; exact (HPO.out.toIn.below HBX.out (Nat.le_refl _)).wide (Nat.le_refl _) HBX.out.size
 have HPN : Hid (P.length = n') := by rw [← HZP.out]; exact HLP.out
 rw [← HE.out]
 first | rw [← HW2.out] | (rw [show _ = W2 from HW2.out.symm])
 clear HW2 HB1 HBX HPO HLP HX
 have c0 : W2.cell? ⟨B, 0, none⟩ = some (.string x0) := HX2.out.cell (i := 0) (by omega)
 rcases Bool.eq_false_or_eq_true ok with h | h
 ·subst h
  rcases Bool.eq_false_or_eq_true u0 with h | h
  ·subst h
   go_wp2_with fail
   refine (HQN0.out _).mono ?_
   rintro e2 w2 ⟨rfl, rfl⟩
   have c2 : W2.cell? ⟨B, 2, none⟩ = some (.string x2) := HX2.out.cell (i := 2) (by omega)
   rcases Bool.eq_false_or_eq_true u2 with h | h
   ·subst h
    go_wp2_with fail
    refine (HQN2.out _).mono ?_
    rintro e2 w3 ⟨rfl, rfl⟩
    have ce : W2.cell? ⟨E, 0, none⟩ = some (.slice a' n' c') := HEC.out
    go_upto_region 4 with fail
    go_wp2_with fail
    refine (HNF.out W.heap.size W2.heap.size a' n' c' _ HPI.out (Nat.le_refl _) HPN.out (by have := HPL.out; have := HPN.out; omega)).mono ?_
    rintro e3 w4 ⟨s, aa, an, ac, eb, m, mc, rfl, HB4⟩
    have hr : r = u3 := by rw [HRE.out, ← HOK.out]; rfl
    subst hr
    have HBE : Hid (Below w.heap.size w w4) := HBT.out.trans (HB4.out.mono HBT.out.size)
    clear HB4
    go_wp2
    obtain rfl : FF = Tryz.f21 := HFF.out
    go_ret
    exact ⟨rfl, HBE.out.trans (below1 _ _ |>.mono HBE.out.size)⟩
   ·subst h
    have hr : r = false := by rw [HRE.out]; simp
    subst hr
    go_wp2_with fail
    refine (HQN2.out _).mono ?_
    rintro e2 w3 ⟨rfl, rfl⟩
    go_wp2
    obtain rfl : FF = Tryz.f21 := HFF.out
    go_ret
    exact ⟨rfl, HBT.out⟩
  ·subst h
   have hr : r = false := by rw [HRE.out]; simp
   subst hr
   go_wp2_with fail
   refine (HQN0.out _).mono ?_
   rintro e2 w2 ⟨rfl, rfl⟩
   go_wp2
   obtain rfl : FF = Tryz.f21 := HFF.out
   go_ret
   exact ⟨rfl, HBT.out⟩
 ·subst h
  have hr : r = false := by rw [HRE.out, ← HOK.out]; rfl
  subst hr
  go_wp2
  obtain rfl : FF = Tryz.f21 := HFF.out
  go_ret
  exact ⟨rfl, HBT.out⟩
set_option maxHeartbeats 4000000 in
set_option maxRecDepth 100000 in
theorem implAtom_of (x0 x1 x2 : Tx) (w : World) (hs : x0.size ≤ 1048576 ∧ x1.size ≤ 1048576 ∧ x2.size ≤ 1048576)
  (hrd : ∀ w0, Calls Tryz.prog 46 #[.string x1] w0 fun e w' => RPost (readP x1) w0 e w')
  (hnf : ∀ (lo hi : Nat) (a : Option Addr) (n cap : Nat) (w0 : World), PathIn lo hi w0 a (atP x1) → hi ≤ w0.heap.size → (atP x1).length = n → n ≤ 60 → Calls Tryz.prog 48 #[pv a n cap] w0 fun e w' => ∃ (s : Int) (aa : Option Addr) (an ac : Nat) (eb : Option Addr) (m mc : Nat), e = .returned (.tuple #[.agg #[.int .i64 s, .slice aa an ac, .slice eb m mc], .bool (nfG (atP x1))]) ∧ Hid (Below w0.heap.size w0 w')) :
  Calls Tryz.prog 27 #[.agg #[.string x0, .string x1, .string x2]] w fun e w' => e = .returned (.bool (atOk (x0, x1, x2))) ∧ Hid (Below w.heap.size w w') := by
 obtain ⟨B, HB⟩ : ∃ B, Hid (B = w.heap.size) := ⟨_, rfl⟩
 obtain ⟨W, HW⟩ : ∃ W, Hid (W = w.alloc (.cells #[.string x0, .string x1, .string x2] 49)) := ⟨_, rfl⟩
 have HBW : Hid (Below w.heap.size w W) := by rw [HW.out]; exact below1 w _
 have HSW : Hid (W.heap.size = B + 1) := by rw [HW.out, HB.out]; show _ = _; simp
 have HX : Hid (Blk W B 3 (k3 (.string x0) (.string x1) (.string x2))) := by rw [HW.out]; exact blk_three w B HB.out _ _ _ _
 obtain ⟨Z, HZ⟩ : ∃ Z, Hid (Z = readP x1) := ⟨_, rfl⟩
 obtain ⟨P, HP⟩ : ∃ P, Hid (P = atP x1) := ⟨_, rfl⟩
 obtain ⟨u0, HU0⟩ : ∃ b : Bool, Hid (b = qname x0) := ⟨_, rfl⟩
 obtain ⟨u2, HU2⟩ : ∃ b : Bool, Hid (b = qname x2) := ⟨_, rfl⟩
 obtain ⟨u3, HU3⟩ : ∃ b : Bool, Hid (b = nfG P) := ⟨_, rfl⟩
 have HZP : Hid (Z.getD [] = P) := by rw [HZ.out, HP.out]; rfl
 have HPL : Hid (P.length ≤ 60) := by rw [HP.out]; exact (atP_len x1).1
 have HRD : Hid (∀ w0, Calls Tryz.prog 46 #[.string x1] w0 fun e w' => RPost Z w0 e w') := by rw [HZ.out]; exact hrd
 have HNF : Hid (∀ (lo hi : Nat) (a : Option Addr) (n cap : Nat) (w0 : World), PathIn lo hi w0 a P → hi ≤ w0.heap.size → P.length = n → n ≤ 60 → Calls Tryz.prog 48 #[pv a n cap] w0 fun e w' => ∃ (s : Int) (aa : Option Addr) (an ac : Nat) (eb : Option Addr) (m mc : Nat), e = .returned (.tuple #[.agg #[.int .i64 s, .slice aa an ac, .slice eb m mc], .bool u3]) ∧ Hid (Below w0.heap.size w0 w')) := by rw [HU3.out, HP.out]; exact hnf
 have HQN0 : Hid (∀ w0, Calls Tryz.prog 47 #[.string x0] w0 fun e w' => e = .returned (.bool u0) ∧ Hid (Below w0.heap.size w0 w')) := fun w0 => by rw [HU0.out]; exact queryName_any x0 x0.size (qname x0) w0 rfl (by omega) rfl
 have HQN2 : Hid (∀ w0, Calls Tryz.prog 47 #[.string x2] w0 fun e w' => e = .returned (.bool u2) ∧ Hid (Below w0.heap.size w0 w')) := fun w0 => by rw [HU2.out]; exact queryName_any x2 x2.size (qname x2) w0 rfl (by omega) rfl
 obtain ⟨r, HR⟩ : ∃ b : Bool, Hid (b = atOk (x0, x1, x2)) := ⟨_, rfl⟩
 have HRE : Hid (r = (Z.isSome && u0 && u2 && u3)) := by rw [HR.out, HU0.out, HU2.out, HU3.out, ← HZP.out, HZ.out]; rfl
 rw [← HR.out]
 clear hs hrd hnf HU0 HU2 HU3 HZ HR HP
 go_enter Tryz.func27, Tryz.ntmps27
 obtain ⟨FF, HFF⟩ : ∃ F : Func, Hid (F = Tryz.f27) := ⟨_, rfl⟩
 rw [← HFF.out]
 go_upto_region 1 with fail
 rw [← HB.out]
 first | rw [← HW.out] | (rw [show _ = W from HW.out.symm])
 clear HW
 have c1 : W.cell? ⟨B, 1, none⟩ = some (.string x1) := HX.out.cell (i := 1) (by omega)
 go_upto_region 2 with (go_at_call 46; refine (HRD.out _).mono ?_; rintro e w1 ⟨a', n', c', ok, rfl, HOK, HLP, HPO, HB1⟩)
 clear c1 HRD
 obtain ⟨W2, HW2⟩ : ∃ W2, Hid (W2 = w1.alloc (.cells #[.slice a' n' c'] 73)) := ⟨_, rfl⟩
 obtain ⟨E, HE⟩ : ∃ E, Hid (E = w1.heap.size) := ⟨_, rfl⟩
 have HBX : Hid (Below w1.heap.size w1 W2) := by rw [HW2.out]; exact below1 _ _
 have HX2 : Hid (Blk W2 B 3 (k3 (.string x0) (.string x1) (.string x2))) := (HX.out.of_block (HB1.out.block _ HX.out.lt)).of_block (HBX.out.block _ (Nat.lt_of_lt_of_le HX.out.lt HB1.out.size))
 have HEC : Hid (W2.cell? ⟨E, 0, none⟩ = some (.slice a' n' c')) := by rw [HW2.out, HE.out]; exact cell_new1 _ _ _ _ rfl
 have HBT : Hid (Below w.heap.size w W2) := HBW.out.trans ((HB1.out.trans (HBX.out.mono HB1.out.size)).mono HBW.out.size)
 have HPI : Hid (PathIn W.heap.size W2.heap.size W2 a' P) := by rw [← HZP.out]; exact (HPO.out.toIn.below HBX.out (Nat.le_refl _)).wide (Nat.le_refl _) HBX.out.size
 have HPN : Hid (P.length = n') := by rw [← HZP.out]; exact HLP.out
 rw [← HE.out]
 first | rw [← HW2.out] | (rw [show _ = W2 from HW2.out.symm])
 clear HW2 HB1 HBX HPO HLP HX
 have c0 : W2.cell? ⟨B, 0, none⟩ = some (.string x0) := HX2.out.cell (i := 0) (by omega)
 rcases Bool.eq_false_or_eq_true ok with h | h
 ·subst h
  rcases Bool.eq_false_or_eq_true u0 with h | h
  ·subst h
   go_wp2_with fail
   refine (HQN0.out _).mono ?_
   rintro e2 w2 ⟨rfl, HQ2⟩
   have c2 : w2.cell? ⟨B, 2, none⟩ = some (.string x2) := (HX2.out.of_block (HQ2.out.block _ HX2.out.lt)).cell (i := 2) (by omega)
   rcases Bool.eq_false_or_eq_true u2 with h | h
   ·subst h
    go_wp2_with fail
    refine (HQN2.out _).mono ?_
    rintro e2 w3 ⟨rfl, HQ3⟩
    have ce : w3.cell? ⟨E, 0, none⟩ = some (.slice a' n' c') := cell_below (cell_below HEC.out HQ2.out (lt_of_cell HEC.out)) HQ3.out (Nat.lt_of_lt_of_le (lt_of_cell HEC.out) HQ2.out.size)
    go_upto_region 4 with fail
    go_wp2_with fail
    refine (HNF.out W.heap.size W2.heap.size a' n' c' _ ((HPI.out.below HQ2.out (Nat.le_refl _)).below HQ3.out HQ2.out.size) (Nat.le_trans HQ2.out.size HQ3.out.size) HPN.out (by have := HPL.out; have := HPN.out; omega)).mono ?_
    rintro e3 w4 ⟨s, aa, an, ac, eb, m, mc, rfl, HB4⟩
    have hr : r = u3 := by rw [HRE.out, ← HOK.out]; rfl
    subst hr
    have HBE : Hid (Below w.heap.size w w4) := ((HBT.out.trans (HQ2.out.mono HBT.out.size)).trans (HQ3.out.mono (Nat.le_trans HBT.out.size HQ2.out.size))).trans (HB4.out.mono (Nat.le_trans (Nat.le_trans HBT.out.size HQ2.out.size) HQ3.out.size))
    clear HB4
    go_wp2
    obtain rfl : FF = Tryz.f27 := HFF.out
    go_ret
    exact ⟨rfl, HBE.out⟩
   ·subst h
    have hr : r = false := by rw [HRE.out]; simp
    subst hr
    go_wp2_with fail
    refine (HQN2.out _).mono ?_
    rintro e2 w3 ⟨rfl, HQ3⟩
    go_wp2
    obtain rfl : FF = Tryz.f27 := HFF.out
    go_ret
    exact ⟨rfl, (HBT.out.trans (HQ2.out.mono HBT.out.size)).trans (HQ3.out.mono (Nat.le_trans HBT.out.size HQ2.out.size))⟩
  ·subst h
   have hr : r = false := by rw [HRE.out]; simp
   subst hr
   go_wp2_with fail
   refine (HQN0.out _).mono ?_
   rintro e2 w2 ⟨rfl, HQ2⟩
   go_wp2
   obtain rfl : FF = Tryz.f27 := HFF.out
   go_ret
   exact ⟨rfl, HBT.out.trans (HQ2.out.mono HBT.out.size)⟩
 ·subst h
  have hr : r = false := by rw [HRE.out, ← HOK.out]; rfl
  subst hr
  go_wp2
  obtain rfl : FF = Tryz.f27 := HFF.out
  go_ret
  exact ⟨rfl, HBT.out⟩
end Go.Proofs.YtbepmeipjdpipaaGreat

namespace Go.Proofs.YtbepmeipjdpipaaGreat
open Go.RowKit
theorem nodup_lt : ∀ (n : Nat) (l : List Nat), l.Nodup → (∀ x, x ∈ l → x < n) → l.length ≤ n
 | 0, l, _, h => by
  cases l with
  | nil => exact Nat.le_refl _
  | cons x l => exact absurd (h x (List.mem_cons_self ..)) (by omega)
 | n + 1, l, hn, h => by
  by_cases hm : n ∈ l
  ·have h1 := nodup_lt n (l.erase n) (hn.erase n) (fun x hx => by
    have h2 := (List.Nodup.mem_erase_iff hn).1 hx
    have h3 := h x h2.2
    have h4 := h2.1
    omega)
   have h2 := List.length_erase_of_mem hm
   omega
  ·have h1 := nodup_lt n l hn (fun x hx => by
    have h3 := h x hx
    by_cases e : x = n
    ·subst e; exact absurd hx hm
    ·omega)
   omega
theorem MkOk.few {s : MkS} (h : MkOk s) : s.ar.length ≤ 625 := by
 have h1 : (s.ar.map fun x => x.1.toNat * 25 + x.2.2.toNat).Nodup := by
  refine List.pairwise_map.2 (h.srt.nodup.imp_of_mem fun {x y} hx hy hne => ?_)
  obtain ⟨f, t, a1, a2, a3, a4, rfl⟩ := h.arc x hx
  obtain ⟨g, u, b1, b2, b3, b4, rfl⟩ := h.arc y hy
  intro e
  have hl := h.len
  simp only [Int.toNat_natCast] at e
  obtain ⟨rfl, rfl⟩ : f = g ∧ t = u := by omega
  exact hne rfl
 have h2 := nodup_lt 625 _ h1 (fun k hk => by
  obtain ⟨x, hx, rfl⟩ := List.mem_map.1 hk
  obtain ⟨f, t, a1, a2, a3, a4, rfl⟩ := h.arc x hx
  have hl := h.len
  simp only [Int.toNat_natCast]
  omega)
 rwa [List.length_map] at h2
theorem own_rowIn {w : World} {H M : Nat} {v : Value} {l : List Int} (h : w.ownsRow H 3 1 v l.length (rowCells l)) (hM : M ≤ H) : ∃ a c, v = .slice a l.length c ∧ RowIn M w.heap.size w a l := by
 obtain ⟨a, hw⟩ : ∃ a : Nat, a = 0 := ⟨0, rfl⟩
 rcases h.2 with ⟨rfl, h0⟩ | ⟨g, cap, cur, rfl, hg, hb, _⟩
 ·exact ⟨none, 0, by rw [h0], .inl (List.length_eq_zero_iff.1 h0)⟩
 ·refine ⟨_, cap, rfl, .inr ⟨g, 0, rfl, by omega, (Array.getElem?_eq_some_iff.1 hb).1, fun i hi => ?_⟩⟩
  have hk := blk_own h
  rw [Nat.mul_one] at hk
  have := hk.cell hi
  rw [Nat.zero_add, this]
  simp [rowCells, hi]
theorem lab_in {w : World} {M : Nat} {a : Option Addr} {c : Nat} {lb : List Int} (h : w.ownsRow (M + 1) 5 1 (.slice a lb.length c) lb.length (lbV lb)) : FlIn 1 (M + 1) w.heap.size w a lb.length (lbC lb) := by
 rcases h.2 with ⟨e, h0⟩ | ⟨g, cap, cur, e, hg, hb, _⟩
 ·exact .inl h0
 ·simp only [Value.slice.injEq, true_and] at e
  obtain ⟨rfl, rfl⟩ := e
  refine .inr ⟨g, 0, rfl, by omega, (Array.getElem?_eq_some_iff.1 hb).1, fun j hj => ?_⟩
  have hk := blk_own h
  have := hk.cell hj
  rw [Nat.zero_add, this]
  simp at hj
  simp [lbV, lbC, hj]
end Go.Proofs.YtbepmeipjdpipaaGreat

namespace Go.Proofs.YtbepmeipjdpipaaGreat
open Go.RowKit
section
variable {P : Program}
theorem wp_append_row2 (w : World) {o : Oper} {a : Act} {K : Act → World → Prop} {Q : Exit → Act → World → Prop} (s x : Operand) (t : TypeId)
  (ho : o.op = .call { callee := .builtin .append, args := #[s, x], argTypes := #[t, t] })
  (base : Nat) (e : TypeId) (i : TypeInfo) (z : Value) (size bytes : Nat) (ht : P.underlying t = some (.slice e)) (hi : P.info? e = some i) (hz : i.zero = some z)
  (hsize : i.size = size) (hby : i.bytes = bytes) (hzs : z.cells.size = size) (hsz : 0 < size)
  (v : Value) (n : Nat) (xs : List Value) (hs : a.eval s = v) (hown : w.ownsRow base e size v n xs)
  (ao : Option Addr) (m c : Nat) (news : List Value) (hx : a.eval x = .slice ao m c) (h0 : ao = none → m = 0) (hl : news.length = m * size) (hnews : ∀ ad, ao = some ad → ∀ j u, news[j]? = some u → w.cell? (ad.add j) = some u) (h1 : ∀ u ∈ news, u.oneCell' = true)
  (h63 : n + m ≤ maxLen) (hbytes : (n + m) * bytes ≤ 140737488355328) (hbase : base ≤ w.heap.size)
  (h : ∀ v' w', w'.ownsRow base e size v' (n + m) (xs ++ news) → w.grownBy w' v.ownBlock → (v'.ownBlock = v.ownBlock ∨ ∃ g, v'.ownBlock = some g ∧ w.heap.size ≤ g) → K (a.put o.dst v') w') : o.wp P a w K Q := by
 cases ao with
 | none =>
  obtain rfl := h0 rfl
  have hnil : news = [] := List.length_eq_zero_iff.1 (by simpa using hl)
  subst hnil
  have hr := run_append_none (P := P) w base t o.type e i size ht hi v n c xs hown
  unfold Oper.wp execOp
  simp only [ho, resolve, invoke, builtin, Sem.run_bind, Sem.run_pure, Result.andThen_ok, List.map_toArray, List.map_cons, List.map_nil, hs, hx, hr]
  exact h v w (by simpa using hown) ⟨rfl, rfl, rfl, Nat.le_refl _, fun _ _ _ => rfl⟩ (.inl rfl)
 | some ad =>
  rcases Nat.eq_zero_or_pos m with hm | hm
  ·subst hm
   have hcase := hown.2
   rcases hcase with ⟨rfl, rfl⟩ | ⟨g, cap, cur, rfl, _, _, hnc, _⟩
   ·exact wp_append_own w s x t ho base e i z size bytes ht hi hz hsize hby hzs hsz _ _ xs hs hown ad 0 c news hx hl (hnews ad rfl) h1 h63 hbytes hbase (fun v' w' h2 h3 h4 => h v' w' h2 h3 (.inl (by rw [h4.2 ⟨rfl, rfl⟩])))
   ·exact wp_append_own_spare w s x t ho base e i size ht hi hsize g n cap xs hs hown ad 0 c news hx hl (hnews ad rfl) h1 (by omega) (fun w' h2 h3 => h _ w' h2 h3 (.inl rfl))
  ·exact wp_append_lies w s x t ho base e i z size bytes ht hi hz hsize hby hzs hsz v n xs hs hown ad m c news hx hl (hnews ad rfl) h1 hm h63 hbytes hbase w.heap.size rfl (fun g cap w' h2 h3 h4 _ => h _ w' h2 h3 (by
    rcases h4 with h4 | h4
    ·exact .inl h4.symm
    ·exact .inr ⟨g, rfl, by omega⟩))
theorem wpList_append_row2 (w : World) {ops : Array Oper} {rest : List Oper} {o : Oper} {a : Act} {Q : Exit → Act → World → Prop} (hgd : o.guard = none) (s x : Operand) (t : TypeId)
  (ho : o.op = .call { callee := .builtin .append, args := #[s, x], argTypes := #[t, t] })
  (base : Nat) (e : TypeId) (i : TypeInfo) (z : Value) (size bytes : Nat) (ht : P.underlying t = some (.slice e)) (hi : P.info? e = some i) (hz : i.zero = some z)
  (hsize : i.size = size) (hby : i.bytes = bytes) (hzs : z.cells.size = size) (hsz : 0 < size)
  (v : Value) (n : Nat) (xs : List Value) (hs : a.eval s = v) (hown : w.ownsRow base e size v n xs)
  (ao : Option Addr) (m c : Nat) (news : List Value) (hx : a.eval x = .slice ao m c) (h0 : ao = none → m = 0) (hl : news.length = m * size) (hnews : ∀ ad, ao = some ad → ∀ j u, news[j]? = some u → w.cell? (ad.add j) = some u) (h1 : ∀ u ∈ news, u.oneCell' = true)
  (h63 : n + m ≤ maxLen) (hbytes : (n + m) * bytes ≤ 140737488355328) (hbase : base ≤ w.heap.size)
  (h : ∀ v' w', w'.ownsRow base e size v' (n + m) (xs ++ news) → w.grownBy w' v.ownBlock → (v'.ownBlock = v.ownBlock ∨ ∃ g, v'.ownBlock = some g ∧ w.heap.size ≤ g) → wpList P ops Q rest (a.put o.dst v') w') : wpList P ops Q (o :: rest) a w :=
 wpList_plain hgd fun _ hK => wp_append_row2 w s x t ho base e i z size bytes ht hi hz hsize hby hzs hsz v n xs hs hown ao m c news hx h0 hl hnews h1 h63 hbytes hbase fun v' w' h2 h3 h4 => hK _ _ (h v' w' h2 h3 h4)
theorem step_append_row2 (w : World) {ops : Array Oper} {o : Oper} {a : Act} {K : Act → World → Prop} {Q : Exit → Act → World → Prop} {E : Prop} (hgd : o.guard = none) (s x : Operand) (t : TypeId)
  (ho : o.op = .call { callee := .builtin .append, args := #[s, x], argTypes := #[t, t] })
  (base : Nat) (e : TypeId) (i : TypeInfo) (z : Value) (size bytes : Nat) (ht : P.underlying t = some (.slice e)) (hi : P.info? e = some i) (hz : i.zero = some z)
  (hsize : i.size = size) (hby : i.bytes = bytes) (hzs : z.cells.size = size) (hsz : 0 < size)
  (v : Value) (n : Nat) (xs : List Value) (hs : a.eval s = v) (hown : w.ownsRow base e size v n xs)
  (ao : Option Addr) (m c : Nat) (news : List Value) (hx : a.eval x = .slice ao m c) (h0 : ao = none → m = 0) (hl : news.length = m * size) (hnews : ∀ ad, ao = some ad → ∀ j u, news[j]? = some u → w.cell? (ad.add j) = some u) (h1 : ∀ u ∈ news, u.oneCell' = true)
  (h63 : n + m ≤ maxLen) (hbytes : (n + m) * bytes ≤ 140737488355328) (hbase : base ≤ w.heap.size)
  (h : ∀ v' w', w'.ownsRow base e size v' (n + m) (xs ++ news) → w.grownBy w' v.ownBlock → (v'.ownBlock = v.ownBlock ∨ ∃ g, v'.ownBlock = some g ∧ w.heap.size ≤ g) → K (a.put o.dst v') w') :
  if Region.wanted o (yielded ops a.tmps) = true then Oper.wp P o a w K Q else E := by
 have hw : Region.wanted o (yielded ops a.tmps) = true := by simp [Region.wanted, hgd]
 rw [if_pos hw]
 exact wp_append_row2 w s x t ho base e i z size bytes ht hi hz hsize hby hzs hsz v n xs hs hown ao m c news hx h0 hl hnews h1 h63 hbytes hbase h
end
theorem own_source {w : World} {H : Nat} {v : Value} {l : List Int} (h : w.ownsRow H 3 1 v l.length (rowCells l)) : ∃ ao c, v = .slice ao l.length c ∧ (ao = none → l.length = 0) ∧ ∀ ad, ao = some ad → ∀ j u, (rowCells l)[j]? = some u → w.cell? (ad.add j) = some u := by
 rcases h.2 with ⟨rfl, h0⟩ | ⟨g, cap, cur, rfl, hg, hb, h1, h2, h3, h4⟩
 ·exact ⟨none, 0, by rw [h0], fun _ => h0, fun ad e => by cases e⟩
 ·refine ⟨_, cap, rfl, fun e => (by cases e), fun ad e j u hu => ?_⟩
  simp only [Option.some.injEq] at e
  subst e
  have hk := blk_own h
  have hj : j < l.length := by have := (List.getElem?_eq_some_iff.1 hu).1; simpa [rowCells] using this
  rw [add_none, Nat.zero_add]
  have := hk.cell (i := j) (by omega)
  rw [this]
  simp [rowCells, hj] at hu
  simp [rowCells, hj, hu]
def ApV (u v : Value) : Prop := ∀ b, u.ownBlock = some b → ¬ v.ownBlock = some b
def ApA (a : Option Addr) (v : Value) : Prop := ∀ b o, a = some ⟨b, o, none⟩ → ¬ v.ownBlock = some b
theorem ApV.symm {u v : Value} (h : ApV u v) : ApV v u := fun b h1 h2 => h b h2 h1
theorem Mk.kept {M : Nat} {w w' : World} {pv lv : Value} {s : MkS} {aa : Option Addr} {an ac : Nat} {p : Nat → Prop} (h : Mk M w pv lv s aa an ac) (hk : KeptP p w w') (hM : ¬ p M) (hl : ∀ b, lv.ownBlock = some b → ¬ p b) (ha : ∀ b o, aa = some ⟨b, o, none⟩ → ¬ p b) : Mk M w' pv lv s aa an ac :=
 ⟨hk.blk h.blk hM, h.len, (arcs_kept h.arc hk (Nat.le_refl _) ha).wide (Nat.le_refl _) hk.size, fun b o e => ⟨(h.off b o e).1, Nat.lt_of_lt_of_le (h.off b o e).2.1 hk.size, (h.off b o e).2.2⟩, owns_keptP h.lab hk hl⟩
theorem kp_trans {p q : Nat → Prop} {w w1 w2 : World} (h : KeptP p w w1) (k : KeptP q w1 w2) (hq : ∀ b, b < w.heap.size → q b → p b) : KeptP p w w2 :=
 ⟨k.os.trans h.os, k.tape.trans h.tape, k.output.trans h.output, Nat.le_trans h.size k.size, fun b hb hn => (k.block b (Nat.lt_of_lt_of_le hb h.size) (fun e => hn (hq b hb e))).trans (h.block b hb hn)⟩
theorem kp_below {B : Nat} {w w1 : World} (h : Below B w w1) : KeptP (fun c => B ≤ c) w w1 := KeptP.of_below h (fun k _ hn => by omega)
theorem kp_grown {r : Option Nat} {w w1 : World} (h : w.grownBy w1 r) : KeptP (fun c => r = some c) w w1 := ⟨h.os, h.tape, h.output, h.size, fun k hk hn => h.block k hk (fun e => hn e.symm)⟩
theorem NewOr.trans {H1 H2 H3 : Nat} {a b c : Option Addr} {K : Nat} (h : NewOr H1 H2 a b) (k : NewOr K H3 b c) (h1 : H1 ≤ K) (h2 : H2 ≤ H3) : NewOr H1 H3 a c := by
 rcases k with k | k
 ·rw [k]
  rcases h with h | h
  ·exact .inl h
  ·exact .inr fun b o e => ⟨(h b o e).1, Nat.lt_of_lt_of_le (h b o e).2 h2⟩
 ·exact .inr fun b o e => ⟨Nat.le_trans h1 (k b o e).1, (k b o e).2⟩
structure Sc (M R : Nat) (w : World) (pv lv0 : Value) (a0 : Option Addr) (xB : Nat → Value) (wr : World) (s : MkS) (o : Lk) (lv : Value) (aa : Option Addr) (an ac : Nat) (fv gv : Value) : Prop where
 mR : M < R
 hR : R = w.heap.size
 l0 : ∀ b, lv0.ownBlock = some b → b < R
 res : Blk wr R 3 (k3 (.slice none 0 0) (.slice none 0 0) (.bool false))
 x : Blk wr (R + 1) 3 xB
 out : Blk wr (R + 2) 3 (k3 fv gv (.bool o.nl))
 mkr : Mk M wr pv lv s aa an ac
 rf : wr.ownsRow (R + 3) 3 1 fv o.fi.length (rowCells o.fi)
 rg : wr.ownsRow (R + 3) 3 1 gv o.la.length (rowCells o.la)
 fg : ApV fv gv
 fl : ApV fv lv
 gl : ApV gv lv
 af : ApA aa fv
 ag : ApA aa gv
 ax : ∀ b o, aa = some ⟨b, o, none⟩ → b < R ∨ R + 3 ≤ b
 kp : KeptP (fun c => c = M ∨ lv0.ownBlock = some c) w wr
 nb : NewB (R + 3) lv0 lv
 na : NewOr w.heap.size wr.heap.size a0 aa
structure Sy (M R : Nat) (w : World) (pv lv0 : Value) (a0 : Option Addr) (xB : Nat → Value) (wr : World) (s : MkS) (o : Lk) (lv : Value) (aa : Option Addr) (an ac : Nat) (fv gv : Value) (D : Nat) (y : Lk) (fy gy : Value) : Prop where
 sc : Sc M R w pv lv0 a0 xB wr s o lv aa an ac fv gv
 yb : Blk wr D 3 (k3 fy gy (.bool y.nl))
 yf : wr.ownsRow (R + 3) 3 1 fy y.fi.length (rowCells y.fi)
 yg : wr.ownsRow (R + 3) 3 1 gy y.la.length (rowCells y.la)
 dR : R + 3 ≤ D
 dl : ¬ lv.ownBlock = some D
 df : ¬ fv.ownBlock = some D
 dg : ¬ gv.ownBlock = some D
 da : ∀ b o, aa = some ⟨b, o, none⟩ → b ≠ D
 yy : ApV fy gy
 yl : ApV fy lv
 zl : ApV gy lv
 ya : ApA aa fy
 za : ApA aa gy
 zf : ApV gy fv
 yv : ApV fy fv
section
variable {M R : Nat} {w : World} {pv lv0 : Value} {a0 : Option Addr} {xB : Nat → Value} {wr : World} {s : MkS} {o : Lk} {lv : Value} {aa : Option Addr} {an ac : Nat} {fv gv : Value} {D : Nat} {y : Lk} {fy gy : Value}
theorem Sc.sz (h : Sc M R w pv lv0 a0 xB wr s o lv aa an ac fv gv) : R + 3 ≤ wr.heap.size := h.out.lt
theorem Sc.lvx (h : Sc M R w pv lv0 a0 xB wr s o lv aa an ac fv gv) {b : Nat} (e : lv.ownBlock = some b) : b < R ∨ R + 3 ≤ b := by
 rcases h.nb with h1 | h1
 ·rw [h1] at e; exact .inl (h.l0 b e)
 ·exact .inr (h1 b e)
theorem Sc.keep {wr' : World} {p : Nat → Prop} (h : Sc M R w pv lv0 a0 xB wr s o lv aa an ac fv gv) (hk : KeptP p wr wr') (hp : ∀ k, p k → R + 3 ≤ k) (hl : ∀ b, lv.ownBlock = some b → ¬ p b) (hf : ∀ b, fv.ownBlock = some b → ¬ p b) (hg : ∀ b, gv.ownBlock = some b → ¬ p b) (ha : ∀ b o, aa = some ⟨b, o, none⟩ → ¬ p b) : Sc M R w pv lv0 a0 xB wr' s o lv aa an ac fv gv :=
 { h with
   res := hk.blk h.res (fun e => by have := hp _ e; omega)
   x := hk.blk h.x (fun e => by have := hp _ e; omega)
   out := hk.blk h.out (fun e => by have := hp _ e; omega)
   mkr := h.mkr.kept hk (fun e => by have := hp _ e; have := h.mR; omega) hl ha
   rf := owns_keptP h.rf hk hf
   rg := owns_keptP h.rg hk hg
   kp := kp_trans h.kp hk (fun b hb e => by have := hp _ e; have := h.hR; omega)
   na := h.na.trans (NewOr.refl _ _ _) (Nat.le_refl _) hk.size }
theorem Sc.below {wr' : World} (h : Sc M R w pv lv0 a0 xB wr s o lv aa an ac fv gv) (hb : Below wr.heap.size wr wr') : Sc M R w pv lv0 a0 xB wr' s o lv aa an ac fv gv :=
 h.keep (kp_below hb) (fun k e => Nat.le_trans h.sz e) (fun b e e2 => by have := (h.mkr.lab.lt b e).2; omega) (fun b e e2 => by have := (h.rf.lt b e).2; omega) (fun b e e2 => by have := (h.rg.lt b e).2; omega) (fun b o e e2 => by have := (h.mkr.off b o e).2.1; omega)
theorem Sc.kid {w2 : World} {s1 : MkS} {lv' : Value} {aa' : Option Addr} {an' ac' : Nat} {T : TypeId} (h : Sc M R w pv lv0 a0 xB wr s o lv aa an ac fv gv) (hno : NewOr wr.heap.size w2.heap.size aa aa') (hya : ∀ b o, aa' = some ⟨b, o, none⟩ → ¬ fy.ownBlock = some b ∧ ¬ gy.ownBlock = some b) (hm : Mk M w2 pv lv' s1 aa' an' ac') (hf : Rw wr.heap.size w2 fy lv' y.fi) (hg : Rw wr.heap.size w2 gy lv' y.la) (hyy : ∀ b, fy.ownBlock = some b → ¬ gy.ownBlock = some b) (hk : KeptP (fun c => c = M ∨ lv.ownBlock = some c) wr w2) (hnb : NewB wr.heap.size lv lv') :
  Sy M R w pv lv0 a0 xB (w2.alloc (.cells #[fy, gy, .bool y.nl] T)) s1 o lv' aa' an' ac' fv gv w2.heap.size y fy gy := by
 have hsz := h.sz
 have hMR := h.mR
 have hp : ∀ k, R ≤ k → k < R + 3 → ¬ (k = M ∨ lv.ownBlock = some k) := fun k h1 h2 e => by
  rcases e with e | e
  ·omega
  ·rcases h.lvx e with h3 | h3 <;> omega
 have hlv' : ∀ b, lv'.ownBlock = some b → lv.ownBlock = some b ∨ wr.heap.size ≤ b := fun b e => by
  rcases hnb with h1 | h1
  ·rw [h1] at e; exact .inl e
  ·exact .inr (h1 b e)
 have haa' : ∀ b o, aa' = some ⟨b, o, none⟩ → aa = some ⟨b, o, none⟩ ∨ wr.heap.size ≤ b := fun b o e => by
  rcases hno with h1 | h1
  ·rw [h1] at e; exact .inl e
  ·exact .inr (h1 b o e).1
 have hfl := fun b e => (h.rf.lt b e)
 have hgl := fun b e => (h.rg.lt b e)
 have hsc : Sc M R w pv lv0 a0 xB w2 s1 o lv' aa' an' ac' fv gv :=
  { mR := h.mR
    hR := h.hR
    l0 := h.l0
    res := hk.blk h.res (hp _ (Nat.le_refl _) (by omega))
    x := hk.blk h.x (hp _ (by omega) (by omega))
    out := hk.blk h.out (hp _ (by omega) (by omega))
    mkr := hm
    rf := owns_keptP h.rf hk (fun c e e2 => by rcases e2 with e2 | e2; have := (hfl c e).1; omega; exact h.fl c e e2)
    rg := owns_keptP h.rg hk (fun c e e2 => by rcases e2 with e2 | e2; have := (hgl c e).1; omega; exact h.gl c e e2)
    fg := h.fg
    fl := fun b e e2 => by rcases hlv' b e2 with h1 | h1; exact h.fl b e h1; have := (hfl b e).2; omega
    gl := fun b e e2 => by rcases hlv' b e2 with h1 | h1; exact h.gl b e h1; have := (hgl b e).2; omega
    af := fun b o e e2 => by rcases haa' b o e with h1 | h1; exact h.af b o h1 e2; have := (hfl b e2).2; omega
    ag := fun b o e e2 => by rcases haa' b o e with h1 | h1; exact h.ag b o h1 e2; have := (hgl b e2).2; omega
    ax := fun b o e => by rcases haa' b o e with h1 | h1; exact h.ax b o h1; exact .inr (by omega)
    kp := kp_trans h.kp hk (fun b hb e => by
     rcases e with e | e
     ·exact .inl e
     ·rcases h.nb with h1 | h1
      ·rw [h1] at e; exact .inr e
      ·have := h1 b e; have := h.hR; omega)
    nb := by
     rcases hnb with h1 | h1
     ·rcases h.nb with h2 | h2
      ·exact .inl (h1.trans h2)
      ·exact .inr fun b e => h2 b (by rw [← h1]; exact e)
     ·exact .inr fun b e => Nat.le_trans hsz (h1 b e)
    na := h.na.trans hno (by have := h.hR; omega) hk.size }
 have hbl : Below w2.heap.size w2 (w2.alloc (.cells #[fy, gy, .bool y.nl] T)) := below1 w2 _
 have hyfl := fun b e => (hf.own.lt b e)
 have hygl := fun b e => (hg.own.lt b e)
 exact
  { sc := hsc.below hbl
    yb := blk_three w2 _ rfl _ _ _ _
    yf := (owns_base hf.own hsz).alloc _
    yg := (owns_base hg.own hsz).alloc _
    dR := hsc.sz
    dl := fun e => by have := (hm.lab.lt _ e).2; omega
    df := fun e => by have := (hsc.rf.lt _ e).2; omega
    dg := fun e => by have := (hsc.rg.lt _ e).2; omega
    da := fun b o e e2 => by have := (hm.off b o e).2.1; omega
    yy := hyy
    yl := hf.off
    zl := hg.off
    ya := fun b o e => (hya b o e).1
    za := fun b o e => (hya b o e).2
    zf := fun b e e2 => by have := (hygl b e).1; have := (hfl b e2).2; omega
    yv := fun b e e2 => by have := (hyfl b e).1; have := (hfl b e2).2; omega }
theorem Sc.join {w2 : World} {s' : MkS} {aa' : Option Addr} {an' ac' : Nat} (h : Sc M R w pv lv0 a0 xB wr s o lv aa an ac fv gv) (hm : Mk M w2 pv lv s' aa' an' ac') (hk : KeptP (fun c => c = M) wr w2) (hno : NewOr wr.heap.size w2.heap.size aa aa') : Sc M R w pv lv0 a0 xB w2 s' o lv aa' an' ac' fv gv := by
 have hsz := h.sz
 have hMR := h.mR
 have haa' : ∀ b o, aa' = some ⟨b, o, none⟩ → aa = some ⟨b, o, none⟩ ∨ wr.heap.size ≤ b := fun b o e => by
  rcases hno with h1 | h1
  ·rw [h1] at e; exact .inl e
  ·exact .inr (h1 b o e).1
 exact
  { h with
    res := hk.blk h.res (by omega)
    x := hk.blk h.x (by omega)
    out := hk.blk h.out (by omega)
    mkr := hm
    rf := owns_keptP h.rf hk (fun c e e2 => by have := (h.rf.lt c e).1; omega)
    rg := owns_keptP h.rg hk (fun c e e2 => by have := (h.rg.lt c e).1; omega)
    af := fun b o e e2 => by rcases haa' b o e with h1 | h1; exact h.af b o h1 e2; have := (h.rf.lt b e2).2; omega
    ag := fun b o e e2 => by rcases haa' b o e with h1 | h1; exact h.ag b o h1 e2; have := (h.rg.lt b e2).2; omega
    ax := fun b o e => by rcases haa' b o e with h1 | h1; exact h.ax b o h1; exact .inr (by omega)
    kp := kp_trans h.kp hk (fun b _ e => .inl e)
    na := h.na.trans hno (by have := h.hR; omega) hk.size }
theorem Sy.join {w2 : World} {s' : MkS} {aa' : Option Addr} {an' ac' : Nat} (h : Sy M R w pv lv0 a0 xB wr s o lv aa an ac fv gv D y fy gy) (hm : Mk M w2 pv lv s' aa' an' ac') (hk : KeptP (fun c => c = M) wr w2) (hno : NewOr wr.heap.size w2.heap.size aa aa') : Sy M R w pv lv0 a0 xB w2 s' o lv aa' an' ac' fv gv D y fy gy := by
 have hMR := h.sc.mR
 have hDR := h.dR
 have hDl := h.yb.lt
 have haa' : ∀ b o, aa' = some ⟨b, o, none⟩ → aa = some ⟨b, o, none⟩ ∨ wr.heap.size ≤ b := fun b o e => by
  rcases hno with h1 | h1
  ·rw [h1] at e; exact .inl e
  ·exact .inr (h1 b o e).1
 exact
  { h with
    sc := h.sc.join hm hk hno
    yb := hk.blk h.yb (by omega)
    yf := owns_keptP h.yf hk (fun c e e2 => by have := (h.yf.lt c e).1; omega)
    yg := owns_keptP h.yg hk (fun c e e2 => by have := (h.yg.lt c e).1; omega)
    da := fun b o e => by rcases haa' b o e with h1 | h1; exact h.da b o h1; omega
    ya := fun b o e e2 => by rcases haa' b o e with h1 | h1; exact h.ya b o h1 e2; have := (h.yf.lt b e2).2; omega
    za := fun b o e e2 => by rcases haa' b o e with h1 | h1; exact h.za b o h1 e2; have := (h.yg.lt b e2).2; omega }
theorem Sy.first {w2 : World} {v' : Value} {l : List Int} (h : Sy M R w pv lv0 a0 xB wr s o lv aa an ac fv gv D y fy gy) (hg : wr.grownBy w2 fv.ownBlock) (ho : w2.ownsRow (R + 3) 3 1 v' l.length (rowCells l)) (hl : v'.ownBlock = fv.ownBlock ∨ ∃ g, v'.ownBlock = some g ∧ wr.heap.size ≤ g) :
  Sy M R w pv lv0 a0 xB (w2.setCell ⟨R + 2, 0, none⟩ v') s ⟨l, o.la, o.nl⟩ lv aa an ac v' gv D y fy gy := by
 have hsz := h.sc.sz
 have hMR := h.sc.mR
 have hDR := h.dR
 have hDl := h.yb.lt
 have hk := (kp_grown hg).mono (p' := fun c => fv.ownBlock = some c ∨ c = R + 2) (fun _ e => .inl e)
 have hk2 : KeptP (fun c => fv.ownBlock = some c ∨ c = R + 2) wr (w2.setCell ⟨R + 2, 0, none⟩ v') := hk.setCell (.inr rfl) _
 have hfl := fun b e => (h.sc.rf.lt b e)
 have hv : ∀ b, v'.ownBlock = some b → fv.ownBlock = some b ∨ wr.heap.size ≤ b := fun b e => by
  rcases hl with h1 | ⟨g, h1, h2⟩
  ·rw [h1] at e; exact .inl e
  ·rw [h1] at e; simp at e; subst e; exact .inr h2
 have hno : ∀ k, k < R + 3 → k ≠ R + 2 → ¬ (fv.ownBlock = some k ∨ k = R + 2) := fun k h1 h2 e => by
  rcases e with e | e
  ·have := (hfl k e).1; omega
  ·exact h2 e
 have hO2 : Blk w2 (R + 2) 3 (k3 fv gv (.bool o.nl)) := (kp_grown hg).blk h.sc.out (fun e => by have := (hfl _ e).1; omega)
 exact
  { sc :=
    { h.sc with
      res := hk2.blk h.sc.res (hno _ (by omega) (by omega))
      x := hk2.blk h.sc.x (hno _ (by omega) (by omega))
      out := (hO2.set 0 (by omega) v').congr fun i hi => by rcases (show i = 0 ∨ i = 1 ∨ i = 2 by omega) with e | e | e <;> subst e <;> rfl
      mkr := h.sc.mkr.kept hk2 (hno _ (by omega) (by omega)) (fun b e e2 => by
        rcases e2 with e2 | e2
        ·exact h.sc.fl b e2 e
        ·rcases h.sc.lvx e with h3 | h3 <;> omega) (fun b o e e2 => by
        rcases e2 with e2 | e2
        ·exact h.sc.af b o e e2
        ·rcases h.sc.ax b o e with h3 | h3 <;> omega)
      rf := owns_set ho (by omega)
      rg := owns_keptP h.sc.rg hk2 (fun c e e2 => by
       rcases e2 with e2 | e2
       ·exact h.sc.fg c e2 e
       ·have := (h.sc.rg.lt c e).1; omega)
      fg := fun b e e2 => by rcases hv b e with h1 | h1; exact h.sc.fg b h1 e2; have := (h.sc.rg.lt b e2).2; omega
      fl := fun b e e2 => by rcases hv b e with h1 | h1; exact h.sc.fl b h1 e2; have := (h.sc.mkr.lab.lt b e2).2; omega
      af := fun b o e e2 => by rcases hv b e2 with h1 | h1; exact h.sc.af b o e h1; have := (h.sc.mkr.off b o e).2.1; omega
      kp := kp_trans h.sc.kp hk2 (fun b hb e => by
       have := h.sc.hR
       rcases e with e | e
       ·have := (hfl b e).1; omega
       ·omega)
      na := h.sc.na.trans (NewOr.refl _ _ _) (Nat.le_refl _) hk2.size }
    yb := hk2.blk h.yb (fun e => by rcases e with e | e; exact h.df e; omega)
    yf := owns_keptP h.yf hk2 (fun c e e2 => by
      rcases e2 with e2 | e2
      ·exact h.yv c e e2
      ·have := (h.yf.lt c e).1; omega)
    yg := owns_keptP h.yg hk2 (fun c e e2 => by
      rcases e2 with e2 | e2
      ·exact h.zf c e e2
      ·have := (h.yg.lt c e).1; omega)
    dR := h.dR
    dl := h.dl
    df := fun e => by rcases hv D e with h1 | h1; exact h.df h1; omega
    dg := h.dg
    da := h.da
    yy := h.yy
    yl := h.yl
    zl := h.zl
    ya := h.ya
    za := h.za
    zf := fun b e e2 => by rcases hv b e2 with h1 | h1; exact h.zf b e h1; have := (h.yg.lt b e).2; omega
    yv := fun b e e2 => by rcases hv b e2 with h1 | h1; exact h.yv b e h1; have := (h.yf.lt b e).2; omega }
theorem Sc.last {w2 : World} {v' : Value} {l : List Int} {p : Nat → Prop} (h : Sc M R w pv lv0 a0 xB wr s o lv aa an ac fv gv) (hk : KeptP p wr w2) (hp : ∀ k, p k → gv.ownBlock = some k ∨ wr.heap.size ≤ k) (ho : w2.ownsRow (R + 3) 3 1 v' l.length (rowCells l)) (hvf : ApV fv v') (hvl : ApV v' lv) (hva : ApA aa v') :
  Sc M R w pv lv0 a0 xB (w2.setCell ⟨R + 2, 1, none⟩ v') s ⟨o.fi, l, o.nl⟩ lv aa an ac fv v' := by
 have hsz := h.sz
 have hMR := h.mR
 have hgl := fun b e => (h.rg.lt b e)
 have hk1 := hk.mono (p' := fun c => p c ∨ c = R + 2) (fun _ e => .inl e)
 have hk2 : KeptP (fun c => p c ∨ c = R + 2) wr (w2.setCell ⟨R + 2, 1, none⟩ v') := hk1.setCell (.inr rfl) _
 have hpx : ∀ k, p k → R + 3 ≤ k := fun k e => by
  rcases hp k e with h1 | h1
  ·exact (hgl k h1).1
  ·omega
 have hno : ∀ k, k < R + 3 → k ≠ R + 2 → ¬ (p k ∨ k = R + 2) := fun k h1 h2 e => by
  rcases e with e | e
  ·have := hpx k e; omega
  ·exact h2 e
 have hO2 : Blk w2 (R + 2) 3 (k3 fv gv (.bool o.nl)) := hk.blk h.out (fun e => by have := hpx _ e; omega)
 exact
  { h with
    res := hk2.blk h.res (hno _ (by omega) (by omega))
    x := hk2.blk h.x (hno _ (by omega) (by omega))
    out := (hO2.set 1 (by omega) v').congr fun i hi => by rcases (show i = 0 ∨ i = 1 ∨ i = 2 by omega) with e | e | e <;> subst e <;> rfl
    mkr := h.mkr.kept hk2 (hno _ (by omega) (by omega)) (fun b e e2 => by
      rcases e2 with e2 | e2
      ·rcases hp b e2 with h1 | h1
       ·exact h.gl b h1 e
       ·have := (h.mkr.lab.lt b e).2; omega
      ·rcases h.lvx e with h3 | h3 <;> omega) (fun b o e e2 => by
      rcases e2 with e2 | e2
      ·rcases hp b e2 with h1 | h1
       ·exact h.ag b o e h1
       ·have := (h.mkr.off b o e).2.1; omega
      ·rcases h.ax b o e with h3 | h3 <;> omega)
    rf := owns_keptP h.rf hk2 (fun c e e2 => by
     rcases e2 with e2 | e2
     ·rcases hp c e2 with h1 | h1
      ·exact h.fg c e h1
      ·have := (h.rf.lt c e).2; omega
     ·have := (h.rf.lt c e).1; omega)
    rg := owns_set ho (by omega)
    fg := hvf
    gl := hvl
    ag := hva
    kp := kp_trans h.kp hk2 (fun b hb e => by
     have := h.hR
     rcases e with e | e
     ·have := hpx b e; omega
     ·omega)
    na := h.na.trans (NewOr.refl _ _ _) (Nat.le_refl _) hk2.size }
theorem Sc.null (h : Sc M R w pv lv0 a0 xB wr s o lv aa an ac fv gv) (q : Bool) : Sc M R w pv lv0 a0 xB (wr.setCell ⟨R + 2, 2, none⟩ (.bool q)) s ⟨o.fi, o.la, q⟩ lv aa an ac fv gv := by
 have hsz := h.sz
 have hMR := h.mR
 have hk : KeptP (fun c => c = R + 2) wr (wr.setCell ⟨R + 2, 2, none⟩ (.bool q)) := kp_set _ _ _ _
 exact
  { h with
    res := hk.blk h.res (by omega)
    x := hk.blk h.x (by omega)
    out := (h.out.set 2 (by omega) (.bool q)).congr fun i hi => by rcases (show i = 0 ∨ i = 1 ∨ i = 2 by omega) with e | e | e <;> subst e <;> rfl
    mkr := h.mkr.kept hk (by omega) (fun b e e2 => by rcases h.lvx e with h3 | h3 <;> omega) (fun b o e e2 => by rcases h.ax b o e with h3 | h3 <;> omega)
    rf := owns_keptP h.rf hk (fun c e e2 => by have := (h.rf.lt c e).1; omega)
    rg := owns_keptP h.rg hk (fun c e e2 => by have := (h.rg.lt c e).1; omega)
    kp := kp_trans h.kp hk (fun b hb e => by have := h.hR; omega)
    na := h.na.trans (NewOr.refl _ _ _) (Nat.le_refl _) hk.size }
theorem Sy.take (h : Sy M R w pv lv0 a0 xB wr s o lv aa an ac fv gv D y fy gy) : Sc M R w pv lv0 a0 xB (wr.setCells (R + 2) 0 [fy, gy, .bool y.nl]) s y lv aa an ac fy gy ∧ Blk (wr.setCells (R + 2) 0 [fy, gy, .bool y.nl]) D 3 (k3 fy gy (.bool y.nl)) := by
 have hsz := h.sc.sz
 have hMR := h.sc.mR
 have hDR := h.dR
 have hk : KeptP (fun c => c = R + 2) wr (wr.setCells (R + 2) 0 [fy, gy, .bool y.nl]) := kp_set3 _ _ _ _ _
 refine ⟨?_, hk.blk h.yb (by omega)⟩
 exact
  { h.sc with
    res := hk.blk h.sc.res (by omega)
    x := hk.blk h.sc.x (by omega)
    out := k3_put h.sc.out _ _ _
    mkr := h.sc.mkr.kept hk (by omega) (fun b e e2 => by rcases h.sc.lvx e with h3 | h3 <;> omega) (fun b o e e2 => by rcases h.sc.ax b o e with h3 | h3 <;> omega)
    rf := owns_keptP h.yf hk (fun c e e2 => by have := (h.yf.lt c e).1; omega)
    rg := owns_keptP h.yg hk (fun c e e2 => by have := (h.yg.lt c e).1; omega)
    fg := h.yy
    fl := h.yl
    gl := h.zl
    af := h.ya
    ag := h.za
    kp := kp_trans h.sc.kp hk (fun b hb e => by have := h.sc.hR; omega)
    na := h.sc.na.trans (NewOr.refl _ _ _) (Nat.le_refl _) hk.size }
theorem Sc.fin (h : Sc M R w pv lv0 a0 xB wr s o lv aa an ac fv gv) : LookPost M w pv lv0 a0 (s, o) (.returned (.agg #[fv, gv, .bool o.nl])) (wr.setCells R 0 [fv, gv, .bool o.nl]) := by
 have hsz := h.sz
 have hMR := h.mR
 have hR := h.hR
 have hk : KeptP (fun c => c = R) wr (wr.setCells R 0 [fv, gv, .bool o.nl]) := kp_set3 _ _ _ _ _
 refine ⟨lv, aa, an, ac, fv, gv, rfl, h.na.trans (NewOr.refl _ _ _) (Nat.le_refl _) hk.size, fun b o e => ⟨h.af b o e, h.ag b o e⟩, h.mkr.kept hk (by omega) (fun b e e2 => by rcases h.lvx e with h3 | h3 <;> omega) (fun b o e e2 => by rcases h.ax b o e with h3 | h3 <;> omega), ⟨owns_base (owns_keptP h.rf hk (fun c e e2 => by have := (h.rf.lt c e).1; omega)) (by omega), h.fl⟩, ⟨owns_base (owns_keptP h.rg hk (fun c e e2 => by have := (h.rg.lt c e).1; omega)) (by omega), h.gl⟩, h.fg, kp_trans h.kp hk (fun b hb e => by omega), ?_⟩
 rcases h.nb with h1 | h1
 ·exact .inl h1
 ·exact .inr fun b e => by have := h1 b e; omega
end
theorem join_mk2 (M H : Nat) (pv lv : Value) (s : MkS) (aa : Option Addr) (an ac : Nat) (fv gv : Value) (fs ts : List Int) (w : World) (hm : Mk M w pv lv s aa an ac) (hs : MkOk s) (hH : M < H) (hf : w.ownsRow H 3 1 fv fs.length (rowCells fs)) (hg : w.ownsRow H 3 1 gv ts.length (rowCells ts)) (hts : ∀ x, x ∈ ts → ∃ t : Nat, 1 ≤ t ∧ t ≤ s.lb.length ∧ x = (t : Int)) (hfl : fs.length ≤ 24) (htl : ts.length ≤ 24) :
  Calls Tryz.prog 59 #[.pointer (some ⟨M, 0, none⟩), fv, gv] w fun e w' => ∃ aa' an' ac', e = .returned (.tuple #[]) ∧ Hid (Mk M w' pv lv { s with ar := joinF s.lb fs ts s.ar } aa' an' ac') ∧ Hid (KeptP (fun c => c = M) w w') ∧ Hid (NewOr w.heap.size w'.heap.size aa aa') := by
 obtain ⟨fa, fc, rfl, hfi⟩ := own_rowIn (M := M + 1) hf (by omega)
 obtain ⟨ga, gc, rfl, hgi⟩ := own_rowIn (M := M + 1) hg (by omega)
 obtain ⟨la, lc, rfl, _⟩ := own_shape hm.lab
 have hm2 : fs.length * ts.length ≤ 24 * 24 := Nat.mul_le_mul hfl htl
 have h := join_any M pv la s.lb.length lc (M + 1) w.heap.size s.lb aa an ac s.ar s.bad fa fs.length fc fs ga ts.length gc ts w hm.blk (lab_in hm.lab) (by omega) (Nat.le_refl _) rfl hs.len hm.arc hm.len hfi rfl hgi rfl hts (by have := hs.few; have := hm.len; omega) (by omega) (by omega)
 refine h.mono ?_
 rintro e w' ⟨rfl, aa', an', ac', HB, HL, HE, HK, HNO⟩
 refine ⟨aa', an', ac', rfl, ⟨HB.out, HL.out, HE.out, fun b o e => ?_, owns_keptP hm.lab HK.out (fun c h e => ?_)⟩, HK, HNO⟩
 ·rcases HNO.out with h | h
  ·rw [h] at e
   have h3 := hm.off b o e
   exact ⟨h3.1, Nat.lt_of_lt_of_le h3.2.1 HK.out.size, h3.2.2⟩
  ·have h3 := h b o e
   have h4 := hm.blk.lt
   exact ⟨by omega, h3.2, fun h5 => by have h6 := (hm.lab.lt b h5).2; omega⟩
 ·have h1 := (hm.lab.lt c h).1
  have h2 : c = M := e
  omega
end Go.Proofs.YtbepmeipjdpipaaGreat

namespace Go.Proofs.YtbepmeipjdpipaaGreat
open Go.RowKit
def LI (M R : Nat) (w : World) (pv lv0 : Value) (a0 : Option Addr) (xB : Nat → Value) (lk : Nat → MkS → MkS × Lk) (op : Int) (ks : List Int) (lo : Nat) (r : MkS × Lk) (k : Nat) (wr : World) : Prop :=
 ∃ (s : MkS) (o : Lk) (lv : Value) (aa : Option Addr) (an ac : Nat) (fv gv : Value), Hid (Sc M R w pv lv0 a0 xB wr s o lv aa an ac fv gv) ∧ Hid (MkOk s) ∧ Hid (lo ≤ s.lb.length ∧ Sts lo s.lb.length o.fi ∧ Sts lo s.lb.length o.la) ∧ Hid (kidsK lk op (ks.drop k) s o = r)
theorem kidsK_next {lk : Nat → MkS → MkS × Lk} {op : Int} {ks : List Int} {k : Nat} {s : MkS} {o : Lk} {r : MkS × Lk} (h : kidsK lk op (ks.drop k) s o = r) (hk : k < ks.length) (hb : s.bad = false) : kidsK lk op (ks.drop (k + 1)) (stepK op (lk (ks.getD k 0).toNat s).1 o (lk (ks.getD k 0).toNat s).2).1 (stepK op (lk (ks.getD k 0).toNat s).1 o (lk (ks.getD k 0).toNat s).2).2 = r := by
 rw [← h, List.drop_eq_getElem_cons hk]
 conv => rhs; unfold kidsK
 rw [if_neg (by rw [hb]; simp)]
 simp [List.getD, hk]
theorem kidsK_end {lk : Nat → MkS → MkS × Lk} {op : Int} {ks : List Int} {k : Nat} {s : MkS} {o : Lk} {r : MkS × Lk} (h : kidsK lk op (ks.drop k) s o = r) (hk : ks.length ≤ k ∨ s.bad = true) : r = (s, o) := by
 rcases hk with hk | hk
 ·rw [← h, List.drop_eq_nil_of_le hk]; rfl
 ·rw [← h]
  cases ks.drop k with
  | nil => rfl
  | cons z zs => unfold kidsK; rw [if_pos hk]
theorem rowCells_appW (l k : List Int) : rowCells (l ++ k) = rowCells l ++ rowCells k := by simp [rowCells]
theorem own_app {w : World} {H : Nat} {v : Value} {l k : List Int} (h : w.ownsRow H 3 1 v (l.length + k.length) (rowCells l ++ rowCells k)) : w.ownsRow H 3 1 v (l ++ k).length (rowCells (l ++ k)) := by
 rw [List.length_append, rowCells_appW]; exact h
theorem Sts.le24 {lo hi : Nat} {l : List Int} (h : Sts lo hi l) (hh : hi ≤ 24) : l.length ≤ 24 := by have := h.1; omega
theorem Hid_mk {p : Prop} (h : p) : Hid p := h
theorem own_src {w : World} {H n c : Nat} {a : Option Addr} {l : List Int} (h : w.ownsRow H 3 1 (.slice a n c) l.length (rowCells l)) : (a = none → l.length = 0) ∧ ∀ ad, a = some ad → ∀ j u, (rowCells l)[j]? = some u → w.cell? (ad.add j) = some u := by
 obtain ⟨ao, c', e, h1, h2⟩ := own_source h
 cases e
 exact ⟨h1, h2⟩
section
variable {M R : Nat} {w : World} {pv lv0 : Value} {a0 : Option Addr} {xB : Nat → Value} {wr : World} {s : MkS} {o : Lk} {lv : Value} {aa : Option Addr} {an ac : Nat} {fv gv : Value} {D : Nat} {y : Lk} {fy gy : Value}
theorem Sy.belowY {wr' : World} (h : Sy M R w pv lv0 a0 xB wr s o lv aa an ac fv gv D y fy gy) (hb : Below wr.heap.size wr wr') : Sy M R w pv lv0 a0 xB wr' s o lv aa an ac fv gv D y fy gy :=
 { h with
   sc := h.sc.below hb
   yb := h.yb.of_block (hb.block _ h.yb.lt)
   yf := owns_keptP h.yf (kp_below hb) (fun c e e2 => by have := (h.yf.lt c e).2; omega)
   yg := owns_keptP h.yg (kp_below hb) (fun c e e2 => by have := (h.yg.lt c e).2; omega) }
end
end Go.Proofs.YtbepmeipjdpipaaGreat
