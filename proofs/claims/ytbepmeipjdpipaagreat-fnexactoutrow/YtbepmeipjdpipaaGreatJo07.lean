import Derived.Test.YtbepmeipjdpipaaGreatJo06
import Derived.Test.YtbepmeipjdpipaaGreatJo03
import Derived.Test.YtbepmeipjdpipaaGreatJo05
import Derived.Deep.RegionHeld3
import Derived.Test.YtbepmeipjdpipaaGreatJo04
namespace Go.Proofs.YtbepmeipjdpipaaGreat
open Go.RowKit
def outL (ns : List Tx) (vs : List Int) (o : List Tx) : List Int := o.map fun y => vs.getD (ixN y ns) 0
theorem outL_len (ns : List Tx) (vs : List Int) (o : List Tx) : (outL ns vs o).length = o.length := by simp [outL]
theorem outL_take {ns : List Tx} {vs : List Int} {o : List Tx} {k : Nat} (h : k < o.length) : outL ns vs (o.take (k + 1)) = outL ns vs (o.take k) ++ [vs.getD (ixN (tat o k) ns) 0] := by
 unfold outL
 rw [List.take_add_one, List.getElem?_eq_getElem h, tat_get h, List.map_append]
 rfl
theorem ixN_lt {x : Tx} {l : List Tx} (h : x ∈ l) : ixN x l < l.length := by
 have h1 : decide (0 ≤ ixL x l) = true := by rw [ixL_iff]; exact inL_iff.2 h
 by_cases h2 : ixN x l < l.length
 ·exact h2
 ·unfold ixL at h1; rw [if_neg h2] at h1; exact absurd h1 (by decide)
theorem ixL_in {x : Tx} {l : List Tx} (h : x ∈ l) : ixL x l = (ixN x l : Int) := by unfold ixL; rw [if_pos (ixN_lt h)]
set_option maxHeartbeats 2000000 in
theorem place_any (lo hi : Nat) (a : Option Addr) (n cap : Nat) (l : List Tx) (x : Tx) (r : Int) (w : World) (ha : FlIn 1 lo hi w a n (tC l)) (hn : l.length = n) (hm : n ≤ 9223372036854775807) (hr : r = ixL x l) :
  Calls Tryz.prog 53 #[.slice a n cap, .string x] w fun e w' => e = .returned (.int .i64 r) ∧ w = w' := by
 have HN : Hid (l.length = n) := hn
 have HA : Hid (FlIn 1 lo hi w a n (tC l)) := ha
 have HR : Hid (r = ixL x l) := hr
 clear ha hn hr
 go_enter Tryz.func53, Tryz.ntmps53
 go_wp2
 go_loop [5] (fun i => ∃ k : Nat, i = .int .i64 k ∧ k ≤ n ∧ Hid (∀ j, j < k → tat l j ≠ x)) (fun i => n - (intOf i).toNat)
 case atStart => exact ⟨0, rfl, by omega, fun j hj => absurd hj (by omega)⟩
 case round =>
  obtain ⟨k, rfl, hk, HP⟩ := hrel
  by_cases hlt : k < n
  ·have hlt1 : (k : Int) < (n : Int) := by omega
   have hlt0 : (0 : Int) ≤ (k : Int) := by omega
   obtain ⟨b, o, rfl, _, _, hc⟩ := HA.out.at hlt
   obtain ⟨y, HY⟩ : ∃ y, Hid (y = tat l k) := ⟨_, rfl⟩
   have p0 := hc 0 (by omega)
   rw [tC0, ← HY.out, Nat.mul_one, Nat.add_zero] at p0
   clear hc
   by_cases hxy : y = x
   ·have hne : (y.toList == x.toList) = true := by rw [toList_eq]; exact decide_eq_true hxy
    have hf : r = (k : Int) := by rw [HR.out]; exact ixL_at (by rw [HN.out]; exact hlt) HP.out (by rw [← HY.out, hxy])
    have HXY : Hid (y = x) := hxy
    clear hxy
    subst hf
    go_wp2
    go_ret
    exact ⟨rfl, rfl⟩
   ·have hne : (y.toList == x.toList) = false := by rw [toList_eq]; exact decide_eq_false hxy
    have HXY : Hid (¬ y = x) := hxy
    clear hxy
    go_wp2
    go_roundw
    case rel => exact ⟨k + 1, by go_num, by omega, fun j hj => by
     by_cases e : j = k
     ·subst e; rw [← HY.out]; exact HXY.out
     ·exact HP.out j (by omega)⟩
    case measure => simp [intOf]; omega
  ·obtain rfl : k = n := by omega
   have hf : r = -1 := by rw [HR.out]; exact ixL_no (fun j hj => HP.out j (by rw [← HN.out]; exact hj))
   subst hf
   go_wp2
   go_ret
   exact ⟨rfl, rfl⟩
set_option maxHeartbeats 8000000 in
set_option maxRecDepth 100000 in
theorem l09Out_any (lo hi : Nat) (e : Bool) (a b c : Option Addr) (n1 c1 n2 c2 n3 c3 : Nat) (o : List Tx) (nlo nhi : Nat) (na : Option Addr) (nn nc : Nat) (ns : List Tx) (vlo vhi : Nat) (va : Option Addr) (vn vc : Nat) (vs : List Int) (w : World)
  (ha : FlIn 1 lo hi w a n1 (tC o)) (hh : hi ≤ w.heap.size) (hl : o.length = n1) (hz : n1 ≤ 1048576) (hb : FlIn 1 nlo nhi w na nn (tC ns)) (hh2 : nhi ≤ w.heap.size) (hl2 : ns.length = nn) (hz2 : nn ≤ 1048576) (hc : RowIn vlo vhi w va vs) (hh3 : vhi ≤ w.heap.size) (hl3 : vs.length = vn) (heq : vn = nn) (hin : ∀ i, i < n1 → tat o i ∈ ns) :
  Calls Tryz.prog 34 #[qv e a n1 c1 b n2 c2 c n3 c3, .slice na nn nc, .slice va vn vc] w fun e' w' => ∃ ao cc, e' = .returned (.slice ao n1 cc) ∧ Hid (RowOwn w.heap.size w'.heap.size w' ao (outL ns vs o)) ∧ Hid (Below w.heap.size w w') := by
 subst heq
 obtain ⟨i0, hi0, hz0, hz1, hz2'⟩ := info_parts Tryz.info3
 obtain ⟨B, HB⟩ : ∃ B, Hid (B = w.heap.size) := ⟨_, rfl⟩
 obtain ⟨W, HW⟩ : ∃ W, Hid (W = (w.alloc (.cells #[.bool e, .slice a n1 c1, .slice b n2 c2, .slice c n3 c3] 32)).alloc (.cells #[] 3)) := ⟨_, rfl⟩
 have HBW : Hid (Below w.heap.size w W) := by rw [HW.out]; exact below2 w _ _
 have HSW : Hid (W.heap.size = B + 2) := by rw [HW.out, HB.out]; show _ = _; simp
 have HQ : Hid (Blk W B 4 (q4 (.bool e) (.slice a n1 c1) (.slice b n2 c2) (.slice c n3 c3))) := by rw [HW.out]; exact (blk_four w B HB.out _ _ _ _ _).alloc _
 have HO : Hid (W.ownsRow (B + 1) 3 1 (.slice (some ⟨B + 1, 0, none⟩) 0 0) 0 (rowCells (outL ns vs (o.take 0)))) := by
  have h := World.ownsRow_made (w.alloc (.cells #[.bool e, .slice a n1 c1, .slice b n2 c2, .slice c n3 c3] 32)) (base := B + 1) (e := 3) (size := 1) #[] 0 (by rw [HB.out]; simp) (Nat.zero_le _) rfl
  rw [← HW.out] at h
  have e : (w.alloc (.cells #[.bool e, .slice a n1 c1, .slice b n2 c2, .slice c n3 c3] 32)).heap.size = B + 1 := by rw [HB.out]; simp
  rw [e] at h
  exact h
 have HA : Hid (FlIn 1 lo hi W a n1 (tC o)) := ha.below HBW.out hh
 have HNA : Hid (FlIn 1 nlo nhi W na vn (tC ns)) := hb.below HBW.out hh2
 have HVA : Hid (RowIn vlo vhi W va vs) := hc.below HBW.out hh3
 have HH : Hid (hi ≤ B ∧ nhi ≤ B ∧ vhi ≤ B) := by rw [HB.out]; exact ⟨hh, hh2, hh3⟩
 have HL : Hid (o.length = n1 ∧ ns.length = vn ∧ vs.length = vn) := ⟨hl, hl2, hl3⟩
 have HIN : Hid (∀ i, i < n1 → tat o i ∈ ns) := hin
 clear ha hb hc hh hh2 hh3 hl hl2 hl3 hin
 go_enter Tryz.func34, Tryz.ntmps34
 obtain ⟨FF, HFF⟩ : ∃ F : Func, Hid (F = Tryz.f34) := ⟨_, rfl⟩
 rw [← HFF.out]
 go_upto_region 2 with fail
 rw [← HB.out]
 first | rw [← HW.out] | (rw [show _ = W from HW.out.symm])
 clear HW
 go_wp2
 go_loopw [8, 7] (fun i v wr => ∃ (k kk : Nat) (v3 : Value), i = .int .i64 (k : Int) ∧ v3 = v ∧ k ≤ n1 ∧ Hid (kk = k) ∧ Hid (wr.ownsRow (B + 1) 3 1 v3 k (rowCells (outL ns vs (o.take k)))) ∧ Hid (Below (B + 1) W wr)) (fun i _ _ => n1 - (intOf i).toNat)
 case atStart => exact ⟨0, 0, _, rfl, rfl, by omega, rfl, HO, Below.refl _ _⟩
 case round =>
  obtain ⟨k, kk, v3, rfl, rfl, hk, _, HOW, HBR⟩ := hrel
  have HSR : Hid (B + 2 ≤ wr.heap.size) := by rw [← HSW.out]; exact HBR.out.size
  obtain ⟨q0, q1, q2, q3⟩ := q_cells (HQ.out.of_block (HBR.out.block _ (by omega)))
  by_cases hlt : k < n1
  ·have hlt1 : (k : Int) < (n1 : Int) := by omega
   have hlt0 : (0 : Int) ≤ (k : Int) := by omega
   obtain ⟨g, og, rfl, _, hgh, hc⟩ := (HA.out.below HBR.out (by have := HH.out; omega)).at hlt
   obtain ⟨y, HY⟩ : ∃ y, Hid (y = tat o k) := ⟨_, rfl⟩
   have p0 := hc 0 (by omega)
   rw [tC0, ← HY.out, Nat.mul_one, Nat.add_zero] at p0
   clear hc hgh
   obtain ⟨j, HJ⟩ : ∃ j, Hid (j = ixN y ns) := ⟨_, rfl⟩
   have HYI : Hid (y ∈ ns) := by rw [HY.out]; exact HIN.out k hlt
   have hjn : j < vn := by rw [HJ.out, ← HL.out.2.1]; exact ixN_lt HYI.out
   have hj1 : (j : Int) < (vn : Int) := by omega
   have hj0 : (0 : Int) ≤ (j : Int) := by omega
   obtain ⟨vb, vo, hva, hvc⟩ := (HVA.out.below HBR.out (by have := HH.out; omega)).num (i := j) (by rw [HL.out.2.2]; omega)
   subst hva
   obtain ⟨x, HX⟩ : ∃ x, Hid (x = vs.getD j 0) := ⟨_, rfl⟩
   rw [← HX.out] at hvc
   have HCP : Hid (Calls Tryz.prog 53 #[.slice na vn nc, .string y] wr fun e w' => e = .returned (.int .i64 (j : Int)) ∧ wr = w') := place_any nlo nhi na vn nc ns y (j : Int) wr (HNA.out.below HBR.out (by have := HH.out; omega)) HL.out.2.1 (by omega) (by rw [ixL_in HYI.out, HJ.out])
   have HST : Hid (outL ns vs (o.take (k + 1)) = outL ns vs (o.take k) ++ [x]) := by show _ = _; rw [outL_take (by rw [HL.out.1]; exact hlt), ← HY.out, ← HJ.out, HX.out]
   have hown := HOW.out.alloc (.cells #[.int .i64 x] 3)
   have hlts := HOW.out.lt
   go_wp2_with fail
   refine HCP.out.mono ?_
   rintro e1 w6 ⟨rfl, rfl⟩
   go_wp2_with (at_builtin; refine wpList_append_lies _ rfl (.tmp 17) (.tmp 28) 36 rfl (B + 1) 3 i0 (.int .i64 0) 1 8 Tryz.underlying36 hi0 hz0 hz1 hz2' rfl (by decide) _ k (rowCells (outL ns vs (o.take k))) rfl hown ⟨wr.heap.size, 0, none⟩ 1 1 [.int .i64 x] rfl rfl (cell_one_new' wr (.int .i64 x) 3) (by simp [Value.oneCell']) (by decide) (by unfold maxLen; omega) (by omega) (by have := HSR.out; simp; omega) _ rfl ?_)
   intro g2 cap2 w2 hown2 hgrow2 _ _
   have HO2 : Hid (w2.ownsRow (B + 1) 3 1 (.slice (some ⟨g2, 0, none⟩) (k + 1) cap2) (k + 1) (rowCells (outL ns vs (o.take (k + 1))))) := by rw [HST.out, rowCells_snoc]; exact hown2
   have HB2 : Hid (Below (B + 1) W w2) := (HBR.out.alloc (by have := HSR.out; have := HSW.out; omega) _).grown hgrow2 (by have := HSR.out; have := HSW.out; simp; omega) (fun k hk => (hlts k hk).1)
   clear hown hown2 hgrow2 hlts p0 hvc q0 q1 q2 q3 HCP
   go_wp2
   go_roundw
   case rel => exact ⟨k + 1, k + 1, _, by go_num, rfl, by omega, rfl, HO2, HB2⟩
   case measure => simp [intOf]; omega
  ·obtain rfl : k = n1 := by omega
   have HTK : Hid (outL ns vs (o.take k) = outL ns vs o) := by show _ = _; rw [List.take_of_length_le (by rw [HL.out.1]; exact Nat.le_refl _)]
   obtain ⟨a3, cap3, hv3, HR3⟩ := rowOwn_of HOW.out (by rw [HTK.out, outL_len, HL.out.1])
   have HR4 : Hid (RowOwn (B + 1) wr.heap.size wr a3 (outL ns vs o)) := by rw [← HTK.out]; exact HR3
   subst hv3
   have HBE : Hid (Below w.heap.size w wr) := HBW.out.trans (HBR.out.mono (by have := HB.out; omega))
   clear HR3
   go_wp2
   obtain rfl : FF = Tryz.f34 := HFF.out
   go_ret
   exact ⟨a3, cap3, rfl, HR4.out.wide (by have := HB.out; omega) (Nat.le_refl _), HBE.out⟩
end Go.Proofs.YtbepmeipjdpipaaGreat

namespace Go.Proofs.YtbepmeipjdpipaaGreat
open Go.RowKit
theorem blk_pair (w : World) (b : Nat) (hb : b = w.heap.size) (x y : Value) (T : TypeId) : w.cell? ⟨b, 0, none⟩ = w.cell? ⟨b, 0, none⟩ ∧ (w.alloc (.cells #[x, y] T)).cell? ⟨b, 0, none⟩ = some x ∧ (w.alloc (.cells #[x, y] T)).cell? ⟨b, 1, none⟩ = some y := by
 have h := blk_list w b hb [x, y] T
 exact ⟨rfl, h.cell (i := 0) (by simp), h.cell (i := 1) (by simp)⟩
set_option maxHeartbeats 4000000 in
set_option maxRecDepth 100000 in
theorem val_any (nlo nhi : Nat) (na : Option Addr) (nn nc : Nat) (ns : List Tx) (vb vo vn vc : Nat) (y : Tx) (x : Int) (w : World)
  (hb : FlIn 1 nlo nhi w na nn (tC ns)) (hh2 : nhi ≤ w.heap.size) (hl2 : ns.length = nn) (hz2 : nn ≤ 1048576) (hin : y ∈ ns) (hv : nn ≤ vn) (hc : w.cell? ⟨vb, vo + ixN y ns, none⟩ = some (.int .i64 x)) :
  Calls Tryz.prog 54 #[.agg #[.slice na nn nc, .slice (some ⟨vb, vo, none⟩) vn vc], .string y] w fun e w' => e = .returned (.int .i64 x) ∧ Hid (Below w.heap.size w w') := by
 obtain ⟨B, HB⟩ : ∃ B, Hid (B = w.heap.size) := ⟨_, rfl⟩
 obtain ⟨W, HW⟩ : ∃ W, Hid (W = w.alloc (.cells #[.slice na nn nc, .slice (some ⟨vb, vo, none⟩) vn vc] 63)) := ⟨_, rfl⟩
 have HBW : Hid (Below w.heap.size w W) := by rw [HW.out]; exact below1 w _
 have HX : Hid (W.cell? ⟨B, 0, none⟩ = some (.slice na nn nc) ∧ W.cell? ⟨B, 1, none⟩ = some (.slice (some ⟨vb, vo, none⟩) vn vc)) := by rw [HW.out]; exact (blk_pair w B HB.out _ _ _).2
 obtain ⟨j, HJ⟩ : ∃ j, Hid (j = ixN y ns) := ⟨_, rfl⟩
 have hjn : j < vn := by rw [HJ.out]; have := ixN_lt hin; omega
 have hj1 : (j : Int) < (vn : Int) := by omega
 have hj0 : (0 : Int) ≤ (j : Int) := by omega
 rw [← HJ.out] at hc
 have HC : Hid (W.cell? ⟨vb, vo + j, none⟩ = some (.int .i64 x)) := cell_below hc HBW.out (lt_of_cell hc)
 have HCP : Hid (Calls Tryz.prog 70 #[.slice na nn nc, .string y] W.drew fun e w' => e = .returned (.int .i64 (j : Int)) ∧ W.drew = w') := index_any nlo nhi na nn nc ns y (j : Int) W.drew ((hb.below HBW.out hh2).below (Below.refl _ _).drew (Nat.le_trans hh2 HBW.out.size)) hl2 (by omega) (by rw [ixL_in hin, HJ.out])
 clear hb hh2 hl2 hin hc
 go_enter Tryz.func54, Tryz.ntmps54
 obtain ⟨FF, HFF⟩ : ∃ F : Func, Hid (F = Tryz.f54) := ⟨_, rfl⟩
 rw [← HFF.out]
 go_upto_region 1 with fail
 rw [← HB.out]
 first | rw [← HW.out] | (rw [show _ = W from HW.out.symm])
 clear HW
 refine wp_region_held_drew (S := fun wz => wz.cell? ⟨B, 0, none⟩ = some (.slice na nn nc) ∧ wz.cell? ⟨B, 1, none⟩ = some (.slice (some ⟨vb, vo, none⟩) vn vc) ∧ wz.cell? ⟨vb, vo + j, none⟩ = some (.int .i64 x)) (by kernel_rfl) ⟨HX.out.1, HX.out.2, HC.out⟩ (fun hHeld => ?_)
 refine wpAnyH_take (i := 0) (oi := { dst := some 5, op := Op.fieldAddr 63 (.tmp 2) 1, type := 0, pos := "l09_meaning.go:47", after := #[], guard := none }) (v := ?_) rfl (by kernel_rfl) (by kernel_rfl) (by kernel_rfl) (fun _ _ _ h => h) (Or.inl ⟨by kernel_rfl, ?_⟩) (by assumption) ?_
 rotate_left
 ·intro w hSw; (try dsimp only at hSw); go_simp; try with_reducible rfl
 simp only [Act.put, List.setIfInBounds_toArray, List.set_cons_zero, List.set_cons_succ]
 refine wpAnyH_take (i := 1) (oi := { dst := some 6, op := Op.load 36 (.tmp 5), type := 36, pos := "l09_meaning.go:47", after := #[{ on := 0, ground := .data }], guard := none }) (v := ?_) rfl (by kernel_rfl) (by kernel_rfl) (by kernel_rfl) (fun _ _ _ h => h) (Or.inl ⟨by kernel_rfl, ?_⟩) (by assumption) ?_
 rotate_left
 ·intro w hSw; (try dsimp only at hSw); go_simp; try with_reducible rfl
 simp only [Act.put, List.setIfInBounds_toArray, List.set_cons_zero, List.set_cons_succ]
 refine wpAnyH_take (i := 2) (oi := { dst := some 7, op := Op.fieldAddr 63 (.tmp 2) 0, type := 0, pos := "l09_meaning.go:47", after := #[], guard := none }) (v := ?_) rfl (by kernel_rfl) (by kernel_rfl) (by kernel_rfl) (fun _ _ _ h => h) (Or.inl ⟨by kernel_rfl, ?_⟩) (by assumption) ?_
 rotate_left
 ·intro w hSw; (try dsimp only at hSw); go_simp; try with_reducible rfl
 simp only [Act.put, List.setIfInBounds_toArray, List.set_cons_zero, List.set_cons_succ]
 refine wpAnyH_take (i := 3) (oi := { dst := some 8, op := Op.load 22 (.tmp 7), type := 22, pos := "l09_meaning.go:47", after := #[{ on := 2, ground := .data }], guard := none }) (v := ?_) rfl (by kernel_rfl) (by kernel_rfl) (by kernel_rfl) (fun _ _ _ h => h) (Or.inl ⟨by kernel_rfl, ?_⟩) (by assumption) ?_
 rotate_left
 ·intro w hSw; (try dsimp only at hSw); go_simp; try with_reducible rfl
 simp only [Act.put, List.setIfInBounds_toArray, List.set_cons_zero, List.set_cons_succ]
 refine wpAnyH_take (i := 4) (oi := { dst := some 9, op := Op.move (.tmp 1), type := 9, pos := "l09_meaning.go:47", after := #[], guard := none }) (v := ?_) rfl (by kernel_rfl) (by kernel_rfl) (by kernel_rfl) (fun _ _ _ h => h) (Or.inl ⟨by kernel_rfl, ?_⟩) (by assumption) ?_
 rotate_left
 ·intro w hSw; (try dsimp only at hSw); go_simp; try with_reducible rfl
 simp only [Act.put, List.setIfInBounds_toArray, List.set_cons_zero, List.set_cons_succ]
 refine wpAnyH_ready (rs := [5]) (by kernel_rfl) (by simp) ?_
 refine AllReadyH.cons (o := { dst := some 10, op := Op.call { callee := Callee.value (.func 70), args := #[.tmp 8, .tmp 9], argTypes := #[22, 9] }, type := 3, pos := "l09_meaning.go:47", after := #[{ on := 3, ground := .data }, { on := 4, ground := .data }], guard := none }) rfl (fun K hK => ?_) ?_
 ·go_wp2_with (go_at_call 70; refine HCP.out.mono ?_; rintro e1 w6 ⟨rfl, rfl⟩)
  refine hK.out _ _ hHeld (fun hHeld => ?_)
  clear hK K
  try simp only [Act.put, List.setIfInBounds_toArray, List.set_cons_zero, List.set_cons_succ]
  refine wpAnyH_take (i := 6) (oi := { dst := some 11, op := Op.indexAddr 36 (.tmp 6) (.tmp 10), type := 0, pos := "l09_meaning.go:47", after := #[{ on := 1, ground := .data }, { on := 5, ground := .data }], guard := none }) (v := ?_) rfl (by kernel_rfl) (by kernel_rfl) (by kernel_rfl) (fun _ _ _ h => h) (Or.inl ⟨by kernel_rfl, ?_⟩) (by assumption) ?_
  rotate_left
  ·intro w hSw; (try dsimp only at hSw); go_simp; try with_reducible rfl
  simp only [Act.put, List.setIfInBounds_toArray, List.set_cons_zero, List.set_cons_succ]
  refine wpAnyH_take (i := 7) (oi := { dst := some 12, op := Op.load 3 (.tmp 11), type := 3, pos := "l09_meaning.go:47", after := #[{ on := 6, ground := .data }], guard := none }) (v := ?_) rfl (by kernel_rfl) (by kernel_rfl) (by kernel_rfl) (fun _ _ _ h => h) (Or.inl ⟨by kernel_rfl, ?_⟩) (by assumption) ?_
  rotate_left
  ·intro w hSw; (try dsimp only at hSw); go_simp; try with_reducible rfl
  simp only [Act.put, List.setIfInBounds_toArray, List.set_cons_zero, List.set_cons_succ]
  refine wpAnyH_take (i := 8) (oi := { dst := some 4, op := Op.assign (.tmp 12), type := 3, pos := "l09_meaning.go:47", after := #[{ on := 7, ground := .data }, { on := 5, ground := .chain }, { on := 0, ground := .phase }, { on := 1, ground := .phase }, { on := 2, ground := .phase }, { on := 3, ground := .phase }, { on := 4, ground := .phase }, { on := 5, ground := .phase }, { on := 6, ground := .phase }, { on := 7, ground := .phase }], guard := none }) (v := ?_) rfl (by kernel_rfl) (by kernel_rfl) (by kernel_rfl) (fun _ _ _ h => h) (Or.inl ⟨by kernel_rfl, ?_⟩) (by assumption) ?_
  rotate_left
  ·intro w hSw; (try dsimp only at hSw); go_simp; try with_reducible rfl
  simp only [Act.put, List.setIfInBounds_toArray, List.set_cons_zero, List.set_cons_succ]
  refine wpAnyH_done (by kernel_rfl) ?_ _
  clear hHeld
  go_wp2
  obtain rfl : FF = Tryz.f54 := HFF.out
  go_ret
  exact ⟨rfl, HBW.out.trans ((Below.refl _ _).drew.mono HBW.out.size)⟩
 exact AllReadyH.nil
set_option maxHeartbeats 8000000 in
set_option maxRecDepth 100000 in
theorem nrow_any (lo hi : Nat) (a : Option Addr) (n1 c1 : Nat) (o : List Tx) (nlo nhi : Nat) (na : Option Addr) (nn nc : Nat) (ns : List Tx) (vlo vhi : Nat) (va : Option Addr) (vn vc : Nat) (vs : List Int) (w : World)
  (ha : FlIn 1 lo hi w a n1 (tC o)) (hh : hi ≤ w.heap.size) (hl : o.length = n1) (hz : n1 ≤ 1048576) (hb : FlIn 1 nlo nhi w na nn (tC ns)) (hh2 : nhi ≤ w.heap.size) (hl2 : ns.length = nn) (hz2 : nn ≤ 1048576) (hc : RowIn vlo vhi w va vs) (hh3 : vhi ≤ w.heap.size) (hl3 : vs.length = vn) (heq : vn = nn) (hin : ∀ i, i < n1 → tat o i ∈ ns) :
  Calls Tryz.prog 35 #[.agg #[.slice na nn nc, .slice va vn vc], .slice a n1 c1] w fun e' w' => ∃ ao cc, e' = .returned (.slice ao n1 cc) ∧ Hid (RowOwn w.heap.size w'.heap.size w' ao (outL ns vs o)) ∧ Hid (Below w.heap.size w w') := by
 subst heq
 obtain ⟨i0, hi0, hz0, hz1, hz2'⟩ := info_parts Tryz.info3
 obtain ⟨B, HB⟩ : ∃ B, Hid (B = w.heap.size) := ⟨_, rfl⟩
 obtain ⟨W, HW⟩ : ∃ W, Hid (W = (w.alloc (.cells #[.slice na vn nc, .slice va vn vc] 63)).alloc (.cells #[] 3)) := ⟨_, rfl⟩
 have HBW : Hid (Below w.heap.size w W) := by rw [HW.out]; exact below2 w _ _
 have HSW : Hid (W.heap.size = B + 2) := by rw [HW.out, HB.out]; show _ = _; simp
 have HX : Hid (Blk W B 2 (fun i => [.slice na vn nc, .slice va vn vc].getD i (.int .i64 0))) := by rw [HW.out]; exact (blk_list w B HB.out [.slice na vn nc, .slice va vn vc] _).alloc _
 have HO : Hid (W.ownsRow (B + 1) 3 1 (.slice (some ⟨B + 1, 0, none⟩) 0 0) 0 (rowCells (outL ns vs (o.take 0)))) := by
  have h := World.ownsRow_made (w.alloc (.cells #[.slice na vn nc, .slice va vn vc] 63)) (base := B + 1) (e := 3) (size := 1) #[] 0 (by rw [HB.out]; simp) (Nat.zero_le _) rfl
  rw [← HW.out] at h
  have e : (w.alloc (.cells #[.slice na vn nc, .slice va vn vc] 63)).heap.size = B + 1 := by rw [HB.out]; simp
  rw [e] at h
  exact h
 have HA : Hid (FlIn 1 lo hi W a n1 (tC o)) := ha.below HBW.out hh
 have HNA : Hid (FlIn 1 nlo nhi W na vn (tC ns)) := hb.below HBW.out hh2
 have HVA : Hid (RowIn vlo vhi W va vs) := hc.below HBW.out hh3
 have HH : Hid (hi ≤ B ∧ nhi ≤ B ∧ vhi ≤ B) := by rw [HB.out]; exact ⟨hh, hh2, hh3⟩
 have HL : Hid (o.length = n1 ∧ ns.length = vn ∧ vs.length = vn) := ⟨hl, hl2, hl3⟩
 have HIN : Hid (∀ i, i < n1 → tat o i ∈ ns) := hin
 clear ha hb hc hh hh2 hh3 hl hl2 hl3 hin
 go_enter Tryz.func35, Tryz.ntmps35
 obtain ⟨FF, HFF⟩ : ∃ F : Func, Hid (F = Tryz.f35) := ⟨_, rfl⟩
 rw [← HFF.out]
 go_upto_region 2 with fail
 rw [← HB.out]
 first | rw [← HW.out] | (rw [show _ = W from HW.out.symm])
 clear HW
 go_wp2
 go_loopw [11, 5] (fun i v wr => ∃ (k kk : Nat) (v3 : Value), i = .int .i64 (k : Int) ∧ v3 = v ∧ k ≤ n1 ∧ Hid (kk = k) ∧ Hid (wr.ownsRow (B + 1) 3 1 v3 k (rowCells (outL ns vs (o.take k)))) ∧ Hid (Below (B + 1) W wr)) (fun i _ _ => n1 - (intOf i).toNat)
 case atStart => exact ⟨0, 0, _, rfl, rfl, by omega, rfl, HO, Below.refl _ _⟩
 case round =>
  obtain ⟨k, kk, v3, rfl, rfl, hk, _, HOW, HBR⟩ := hrel
  have HSR : Hid (B + 2 ≤ wr.heap.size) := by rw [← HSW.out]; exact HBR.out.size
  by_cases hlt : k < n1
  ·have hlt1 : (k : Int) < (n1 : Int) := by omega
   have hlt0 : (0 : Int) ≤ (k : Int) := by omega
   obtain ⟨g, og, rfl, _, hgh, hc⟩ := (HA.out.below HBR.out (by have := HH.out; omega)).at hlt
   obtain ⟨y, HY⟩ : ∃ y, Hid (y = tat o k) := ⟨_, rfl⟩
   have p0 := hc 0 (by omega)
   rw [tC0, ← HY.out, Nat.mul_one, Nat.add_zero] at p0
   clear hc hgh
   have HYI : Hid (y ∈ ns) := by rw [HY.out]; exact HIN.out k hlt
   obtain ⟨vb, vo, hva, hvc⟩ := (HVA.out.below HBR.out (by have := HH.out; omega)).num (i := ixN y ns) (by rw [HL.out.2.2, ← HL.out.2.1]; exact ixN_lt HYI.out)
   subst hva
   obtain ⟨x, HXV⟩ : ∃ x, Hid (x = vs.getD (ixN y ns) 0) := ⟨_, rfl⟩
   rw [← HXV.out] at hvc
   have HXR : Hid (Blk wr B 2 (fun i => [.slice na vn nc, .slice (some ⟨vb, vo, none⟩) vn vc].getD i (.int .i64 0))) := HX.out.of_block (HBR.out.block _ (by omega))
   have x0 : wr.cell? ⟨B, 0, none⟩ = some (.slice na vn nc) := HXR.out.cell (i := 0) (by omega)
   have x1 : wr.cell? ⟨B, 1, none⟩ = some (.slice (some ⟨vb, vo, none⟩) vn vc) := HXR.out.cell (i := 1) (by omega)
   have HCP : Hid (Calls Tryz.prog 54 #[.agg #[.slice na vn nc, .slice (some ⟨vb, vo, none⟩) vn vc], .string y] wr fun e w' => e = .returned (.int .i64 x) ∧ Hid (Below wr.heap.size wr w')) := val_any nlo nhi na vn nc ns vb vo vn vc y x wr (HNA.out.below HBR.out (by have := HH.out; omega)) (by have := HH.out; have := HSR.out; omega) HL.out.2.1 hz2 HYI.out (Nat.le_refl _) hvc
   have HST : Hid (outL ns vs (o.take (k + 1)) = outL ns vs (o.take k) ++ [x]) := by show _ = _; rw [outL_take (by rw [HL.out.1]; exact hlt), ← HY.out, HXV.out]
   clear hvc HXR
   go_wp2_with fail
   refine HCP.out.mono ?_
   rintro e1 w6 ⟨rfl, HB6⟩
   clear x0 x1 p0 HCP
   have HO6 : Hid (w6.ownsRow (B + 1) 3 1 v3 k (rowCells (outL ns vs (o.take k)))) := own_below HOW.out HB6.out
   have HB6B : Hid (Below (B + 1) W w6) := HBR.out.trans (HB6.out.mono (by have := HSR.out; omega))
   have HS6 : Hid (B + 2 ≤ w6.heap.size) := Nat.le_trans HSR.out HB6.out.size
   have hown := HO6.out.alloc (.cells #[.int .i64 x] 3)
   have hlts := HO6.out.lt
   go_wp2_with (at_builtin; refine wpList_append_lies _ rfl (.tmp 15) (.tmp 19) 36 rfl (B + 1) 3 i0 (.int .i64 0) 1 8 Tryz.underlying36 hi0 hz0 hz1 hz2' rfl (by decide) _ k (rowCells (outL ns vs (o.take k))) rfl hown ⟨w6.heap.size, 0, none⟩ 1 1 [.int .i64 x] rfl rfl (cell_one_new' w6 (.int .i64 x) 3) (by simp [Value.oneCell']) (by decide) (by unfold maxLen; omega) (by omega) (by have := HS6.out; simp; omega) _ rfl ?_)
   intro g2 cap2 w2 hown2 hgrow2 _ _
   have HO2 : Hid (w2.ownsRow (B + 1) 3 1 (.slice (some ⟨g2, 0, none⟩) (k + 1) cap2) (k + 1) (rowCells (outL ns vs (o.take (k + 1))))) := by rw [HST.out, rowCells_snoc]; exact hown2
   have HB2 : Hid (Below (B + 1) W w2) := (HB6B.out.alloc (by have := HS6.out; have := HSW.out; omega) _).grown hgrow2 (by have := HS6.out; have := HSW.out; simp; omega) (fun k hk => (hlts k hk).1)
   clear hown hown2 hgrow2 hlts HB6
   go_wp2
   go_roundw
   case rel => exact ⟨k + 1, k + 1, _, by go_num, rfl, by omega, rfl, HO2, HB2⟩
   case measure => simp [intOf]; omega
  ·obtain rfl : k = n1 := by omega
   have HTK : Hid (outL ns vs (o.take k) = outL ns vs o) := by show _ = _; rw [List.take_of_length_le (by rw [HL.out.1]; exact Nat.le_refl _)]
   obtain ⟨a3, cap3, hv3, HR3⟩ := rowOwn_of HOW.out (by rw [HTK.out, outL_len, HL.out.1])
   have HR4 : Hid (RowOwn (B + 1) wr.heap.size wr a3 (outL ns vs o)) := by rw [← HTK.out]; exact HR3
   subst hv3
   have HBE : Hid (Below w.heap.size w wr) := HBW.out.trans (HBR.out.mono (by have := HB.out; omega))
   clear HR3
   go_wp2
   obtain rfl : FF = Tryz.f35 := HFF.out
   go_ret
   exact ⟨a3, cap3, rfl, HR4.out.wide (by have := HB.out; omega) (Nat.le_refl _), HBE.out⟩
end Go.Proofs.YtbepmeipjdpipaaGreat
