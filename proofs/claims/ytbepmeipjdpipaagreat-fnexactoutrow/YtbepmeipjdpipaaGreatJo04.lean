import Derived.Test.YtbepmeipjdpipaaGreatJo03
import Derived.Maps.OwnSet
import Derived.Maps.OwnOps
import Derived.Deep.AppendLies
import Derived.Test.YtbepmeipjdpipaaGreatJo01
import Derived.Deep.DeepCutAuto
import Derived.Laws.RangeAny
import Derived.Test.YtbepmeipjdpipaaGreatJo02
import Derived.Deep.Strs
import Derived.Deep.SlicePairs
import Derived.ProofKit
import Derived.OpenShut
import Derived.ChangeOld
import Derived.Laws.AppendOwnNone
import Derived.Deep.RegionHeldLaw
import Derived.Laws.MakeOwn
namespace Go.Proofs.YtbepmeipjdpipaaGreat
open Go.RowKit Go.Maps
def inL (x : Tx) (l : List Tx) : Bool := l.any fun y => decide (y = x)
theorem inL_iff {x : Tx} {l : List Tx} : inL x l = true ↔ x ∈ l := by simp [inL]
def addN (acc : List Tx) (x : Tx) : List Tx := if inL x acc = true then acc else acc ++ [x]
def nmL (t : List At) : Nat → List Tx
 | 0 => []
 | k + 1 => addN (addN (nmL t k) (aat t k).1) (aat t k).2.2
theorem addN_len (acc : List Tx) (x : Tx) : (addN acc x).length ≤ acc.length + 1 := by unfold addN; split <;> simp
theorem nmL_len (t : List At) : ∀ k, (nmL t k).length ≤ 2 * k
 | 0 => by simp [nmL]
 | k + 1 => by
  have h1 := nmL_len t k
  have h2 := addN_len (nmL t k) (aat t k).1
  have h3 := addN_len (addN (nmL t k) (aat t k).1) (aat t k).2.2
  show (addN (addN (nmL t k) (aat t k).1) (aat t k).2.2).length ≤ _
  omega
theorem addN_no {acc : List Tx} {x : Tx} (h : inL x acc = true) : addN acc x = acc := by unfold addN; rw [if_pos h]
theorem addN_yes {acc : List Tx} {x : Tx} (h : inL x acc = false) : addN acc x = acc ++ [x] := by unfold addN; rw [if_neg (by rw [h]; exact Bool.false_ne_true)]
theorem mem_upto (l : List Tx) (x : Tx) : x ∈ l ↔ ∃ i, i < l.length ∧ tat l i = x := by
 constructor
 ·intro h
  obtain ⟨i, hi, e⟩ := List.getElem_of_mem h
  exact ⟨i, hi, by rw [tat_get hi, e]⟩
 ·rintro ⟨i, hi, e⟩
  rw [← e, tat_get hi]
  exact List.getElem_mem hi
set_option maxHeartbeats 2000000 in
theorem l08In_any (lo hi : Nat) (a : Option Addr) (n cap : Nat) (l : List Tx) (x : Tx) (r : Bool) (w : World) (ha : FlIn 1 lo hi w a n (tC l)) (hn : l.length = n) (hm : n ≤ 9223372036854775807) (hr : r = inL x l) :
  Calls Tryz.prog 23 #[.slice a n cap, .string x] w fun e w' => e = .returned (.bool r) ∧ w = w' := by
 have HN : Hid (l.length = n) := hn
 have HA : Hid (FlIn 1 lo hi w a n (tC l)) := ha
 have HR : Hid (r = inL x l) := hr
 clear ha hn hr
 go_enter Tryz.func23, Tryz.ntmps23
 go_wp2
 go_loop [5] (fun i => ∃ k : Nat, i = .int .i64 k ∧ k ≤ n ∧ Hid (∀ j, j < k → tat l j ≠ x)) (fun i => n - (intOf i).toNat)
 case atStart => exact ⟨0, rfl, by omega, fun j hj => absurd hj (by omega)⟩
 case round =>
  obtain ⟨k, rfl, hk, HP⟩ := hrel
  by_cases hlt : k < n
  ·have hlt1 : (k : Int) < (n : Int) := by omega
   have hlt0 : (0 : Int) ≤ (k : Int) := by omega
   obtain ⟨b, o, rfl, _, _, hc⟩ := HA.out.at hlt
   obtain ⟨y, HY⟩ : ∃ y, Hid (y = tat l k) := ⟨_, rfl⟩
   have p0 := hc 0 (by omega)
   rw [tC0, ← HY.out, Nat.mul_one, Nat.add_zero] at p0
   clear hc
   by_cases hxy : y = x
   ·have hne : (y.toList == x.toList) = true := by rw [toList_eq]; exact decide_eq_true hxy
    have hf : r = true := by rw [HR.out]; exact inL_iff.2 ((mem_upto l x).2 ⟨k, by rw [HN.out]; exact hlt, by rw [← HY.out, hxy]⟩)
    have HXY : Hid (y = x) := hxy
    clear hxy
    subst hf
    go_wp2
    go_ret
    exact ⟨rfl, rfl⟩
   ·have hne : (y.toList == x.toList) = false := by rw [toList_eq]; exact decide_eq_false hxy
    have HXY : Hid (¬ y = x) := hxy
    clear hxy
    go_wp2
    go_roundw
    case rel => exact ⟨k + 1, by go_num, by omega, fun j hj => by
     by_cases e : j = k
     ·subst e; rw [← HY.out]; exact HXY.out
     ·exact HP.out j (by omega)⟩
    case measure => simp [intOf]; omega
  ·obtain rfl : k = n := by omega
   have hf : r = false := by
    rw [HR.out]
    refine Bool.eq_false_iff.2 fun h => ?_
    obtain ⟨i, hi, e⟩ := (mem_upto l x).1 (inL_iff.1 h)
    exact HP.out i (by rw [← HN.out]; exact hi) e
   subst hf
   go_wp2
   go_ret
   exact ⟨rfl, rfl⟩
def NamesAt (base : Nat) (w : World) (v : Value) (n : Nat) (l : List Tx) : Prop := l.length = n ∧ w.ownsRow base 9 1 v n (strC l)
theorem NamesAt.below {base n : Nat} {w w' : World} {v : Value} {l : List Tx} (h : NamesAt base w v n l) (hb : Below w.heap.size w w') : NamesAt base w' v n l := ⟨h.1, own_below h.2 hb⟩
theorem l08In_names (base : Nat) (v : Value) (n : Nat) (l : List Tx) (x : Tx) (r : Bool) (w : World) (h : NamesAt base w v n l) (hm : n ≤ 9223372036854775807) (hr : r = inL x l) :
  Calls Tryz.prog 23 #[v, .string x] w fun e w' => e = .returned (.bool r) ∧ w = w' := by
 obtain ⟨ao, c, rfl, h1⟩ := own_texts h.2 h.1
 exact l08In_any base w.heap.size ao n c l x r w h1.toIn h.1 hm hr
set_option maxHeartbeats 8000000 in
set_option maxRecDepth 100000 in
theorem specNames_any (lo hi : Nat) (e : Bool) (a b c : Option Addr) (n1 c1 n2 c2 n3 c3 : Nat) (o : List Tx) (t : List At) (f : List Fl) (w : World) (ha : QIn lo hi w a b c n1 n2 n3 (tC o) (aC t) (fC f)) (hh : hi ≤ w.heap.size) (hz : n2 ≤ 1048576) :
  Calls Tryz.prog 22 #[qv e a n1 c1 b n2 c2 c n3 c3] w fun e w' => ∃ ao nn cc, e = .returned (.slice ao nn cc) ∧ Hid ((nmL t n2).length = nn) ∧ Hid (FlOwn 1 w.heap.size w'.heap.size w' ao nn (tC (nmL t n2))) ∧ Hid (Below w.heap.size w w') := by
 obtain ⟨i9, hi9, hz90, hz91, hz92⟩ := info_parts info9s
 obtain ⟨B, HB⟩ : ∃ B, Hid (B = w.heap.size) := ⟨_, rfl⟩
 obtain ⟨W, HW⟩ : ∃ W, Hid (W = (w.alloc (.cells #[.bool e, .slice a n1 c1, .slice b n2 c2, .slice c n3 c3] 32)).alloc (.cells #[] 9)) := ⟨_, rfl⟩
 have HBW : Hid (Below w.heap.size w W) := by rw [HW.out]; exact below2 w _ _
 have HSW : Hid (W.heap.size = B + 2) := by rw [HW.out, HB.out]; show _ = _; simp
 have HQ : Hid (Blk W B 4 (q4 (.bool e) (.slice a n1 c1) (.slice b n2 c2) (.slice c n3 c3))) := by rw [HW.out]; exact (blk_four w B HB.out _ _ _ _ _).alloc _
 have HO : Hid (NamesAt (B + 1) W (.slice (some ⟨B + 1, 0, none⟩) 0 0) 0 []) := by
  have h := World.ownsRow_made (w.alloc (.cells #[.bool e, .slice a n1 c1, .slice b n2 c2, .slice c n3 c3] 32)) (base := B + 1) (e := 9) (size := 1) #[] 0 (by rw [HB.out]; simp) (Nat.zero_le _) rfl
  rw [← HW.out] at h
  have e : (w.alloc (.cells #[.bool e, .slice a n1 c1, .slice b n2 c2, .slice c n3 c3] 32)).heap.size = B + 1 := by rw [HB.out]; simp
  rw [e] at h
  exact ⟨rfl, h⟩
 have HA : Hid (FlIn 3 lo hi W b n2 (aC t)) := ha.2.1.below HBW.out hh
 have HH : Hid (hi ≤ B) := by rw [HB.out]; exact hh
 clear ha hh
 go_enter Tryz.func22, Tryz.ntmps22
 obtain ⟨FF, HFF⟩ : ∃ F : Func, Hid (F = Tryz.f22) := ⟨_, rfl⟩
 rw [← HFF.out]
 go_upto_region 2 with fail
 rw [← HB.out]
 first | rw [← HW.out] | (rw [show _ = W from HW.out.symm])
 clear HW
 go_wp2
 go_loopw [4, 3] (fun i v wr => ∃ (k nn : Nat) (v3 : Value), i = .int .i64 (k : Int) ∧ v3 = v ∧ k ≤ n2 ∧ Hid (NamesAt (B + 1) wr v3 nn (nmL t k)) ∧ Hid (Below (B + 1) W wr)) (fun i _ _ => n2 - (intOf i).toNat)
 case atStart => exact ⟨0, 0, _, rfl, rfl, by omega, HO, Below.refl _ _⟩
 case round =>
  obtain ⟨k, na, v3, rfl, rfl, hk, HNM, HBR⟩ := hrel
  have HSR : Hid (B + 2 ≤ wr.heap.size) := by rw [← HSW.out]; exact HBR.out.size
  obtain ⟨q0, q1, q2, q3⟩ := q_cells (HQ.out.of_block (HBR.out.block _ (by omega)))
  by_cases hlt : k < n2
  ·have hlt1 : (k : Int) < (n2 : Int) := by omega
   have hlt0 : (0 : Int) ≤ (k : Int) := by omega
   obtain ⟨g, og, rfl, _, hgh, hc⟩ := (HA.out.below HBR.out (by have := HH.out; omega)).at hlt
   have HGB : Hid (g < B + 1) := by have := HH.out; show _ < _; omega
   obtain ⟨x, HX⟩ : ∃ x, Hid (x = aat t k) := ⟨_, rfl⟩
   have p0 := hc 0 (by omega)
   have p2 := hc 2 (by omega)
   rw [aC0, ← HX.out] at p0
   rw [aC2, ← HX.out] at p2
   simp only [Nat.add_zero] at p0
   rw [← Nat.add_assoc] at p2
   obtain ⟨x0, x1, x2⟩ := x
   dsimp only at p0 p2
   have HP2 : Hid (wr.cell? ⟨g, og + k * 3 + 2, none⟩ = some (.string x2)) := p2
   clear hc hgh
   obtain ⟨acc, HACC⟩ : ∃ l, Hid (l = nmL t k) := ⟨_, rfl⟩
   have HNX : Hid (nmL t (k + 1) = addN (addN acc x0) x2) := by show _ = _; rw [HACC.out]; show addN (addN _ _) _ = _; rw [← HX.out]
   have hna : na ≤ 2097152 := by have h1 := nmL_len t k; have h2 := HNM.out.1; omega
   rw [← HACC.out] at HNM
   obtain ⟨u, HU⟩ : ∃ u : Bool, Hid (u = inL x0 acc) := ⟨_, rfl⟩
   go_wp2_with fail
   refine (l08In_names (B + 1) v3 na acc x0 u wr HNM.out (by omega) HU.out).mono ?_
   rintro e1 w1 ⟨rfl, rfl⟩
   rcases Bool.eq_false_or_eq_true u with hu | hu
   ·subst hu
    have HA1 : Hid (addN acc x0 = acc) := addN_no HU.out.symm
    obtain ⟨v, HV⟩ : ∃ u : Bool, Hid (u = inL x2 acc) := ⟨_, rfl⟩
    go_wp2_with fail
    refine (l08In_names (B + 1) v3 na (acc) x2 v wr HNM.out (by omega) HV.out).mono ?_
    rintro e1 w1 ⟨rfl, rfl⟩
    rcases Bool.eq_false_or_eq_true v with hv | hv
    ·subst hv
     have HA2 : Hid (nmL t (k + 1) = acc) := by show _ = _; rw [HNX.out, HA1.out, addN_no HV.out.symm]
     go_wp2
     go_roundw
     case rel => exact ⟨k + 1, na, _, by go_num, rfl, by omega, by rw [HA2.out]; exact HNM, HBR⟩
     case measure => simp [intOf]; omega
    ·subst hv
     have HA2 : Hid (nmL t (k + 1) = acc ++ [x2]) := by show _ = _; rw [HNX.out, HA1.out, addN_yes HV.out.symm]
     have howns := (HNM.out.2).alloc (.cells #[.string x2] 9)
     have hlts := (HNM.out.2).lt
     go_wp2_with (at_builtin; refine wpList_append_lies _ rfl (.tmp 40) (.tmp 47) 22 rfl (B + 1) 9 i9 (.string ⟨#[]⟩) 1 16 Tryz.underlying22 hi9 hz90 hz91 hz92 rfl (by decide) _ na (strC acc) rfl howns ⟨wr.heap.size, 0, none⟩ 1 1 [.string x2] rfl rfl (news_new1 wr (.string x2) 9) (by simp [Value.oneCell']) (by decide) (by unfold maxLen; omega) (by omega) (by have := HSR.out; simp; omega) _ rfl ?_)
     intro gs caps w8 hown5 hgrow5 hloc5 hg5
     have HNMs : Hid (NamesAt (B + 1) w8 (.slice (some ⟨gs, 0, none⟩) (na + 1) caps) (na + 1) (acc ++ [x2])) := ⟨by rw [List.length_append, HNM.out.1]; rfl, by rw [strC_snoc]; exact hown5⟩
     have HB6Xs : Hid (Below (B + 1) wr w8) := ((Below.refl _ _).alloc (by have := HSR.out; have := HBR.out.size; have := HSW.out; omega) _).trans (own_grown hgrow5 (fun c hc => (hlts c hc).1) (by have := HSR.out; have := HBR.out.size; have := HSW.out; simp; omega))
     have HB6s : Hid (Below (B + 1) W w8) := HBR.out.trans HB6Xs.out
     clear howns hlts hown5 hgrow5 hloc5 hg5
     go_wp2
     go_roundw
     case rel => exact ⟨k + 1, na + 1, _, by go_num, rfl, by omega, by rw [HA2.out]; exact HNMs, HB6s⟩
     case measure => simp [intOf]; omega
   ·subst hu
    have HA1 : Hid (addN acc x0 = acc ++ [x0]) := addN_yes HU.out.symm
    have hownf := (HNM.out.2).alloc (.cells #[.string x0] 9)
    have hltf := (HNM.out.2).lt
    go_wp2_with (at_builtin; refine wpList_append_lies _ rfl (.tmp 22) (.tmp 29) 22 rfl (B + 1) 9 i9 (.string ⟨#[]⟩) 1 16 Tryz.underlying22 hi9 hz90 hz91 hz92 rfl (by decide) _ na (strC acc) rfl hownf ⟨wr.heap.size, 0, none⟩ 1 1 [.string x0] rfl rfl (news_new1 wr (.string x0) 9) (by simp [Value.oneCell']) (by decide) (by unfold maxLen; omega) (by omega) (by have := HSR.out; simp; omega) _ rfl ?_)
    intro gf capf w6 hown5 hgrow5 hloc5 hg5
    have HNMf : Hid (NamesAt (B + 1) w6 (.slice (some ⟨gf, 0, none⟩) (na + 1) capf) (na + 1) (acc ++ [x0])) := ⟨by rw [List.length_append, HNM.out.1]; rfl, by rw [strC_snoc]; exact hown5⟩
    have HB6Xf : Hid (Below (B + 1) wr w6) := ((Below.refl _ _).alloc (by have := HSR.out; have := HBR.out.size; have := HSW.out; omega) _).trans (own_grown hgrow5 (fun c hc => (hltf c hc).1) (by have := HSR.out; have := HBR.out.size; have := HSW.out; simp; omega))
    have HB6f : Hid (Below (B + 1) W w6) := HBR.out.trans HB6Xf.out
    clear hownf hltf hown5 hgrow5 hloc5 hg5
    have HB6 := HB6f
    have HB6X := HB6Xf
    clear p0 p2 q0 q1 q2 q3
    obtain ⟨z0, z1, z2, z3⟩ := q_cells (HQ.out.of_block (HB6.out.block _ (by omega)))
    have p2' : w6.cell? ⟨g, og + k * 3 + 2, none⟩ = some (.string x2) := by
     have h6 := HB6X.out
     exact cell_below HP2.out h6 HGB.out
    obtain ⟨v, HV⟩ : ∃ u : Bool, Hid (u = inL x2 (acc ++ [x0])) := ⟨_, rfl⟩
    go_wp2_with fail
    refine (l08In_names (B + 1) (.slice (some ⟨gf, 0, none⟩) (na + 1) capf) (na + 1) (acc ++ [x0]) x2 v w6 HNMf.out (by omega) HV.out).mono ?_
    rintro e1 w1 ⟨rfl, rfl⟩
    rcases Bool.eq_false_or_eq_true v with hv | hv
    ·subst hv
     have HA2 : Hid (nmL t (k + 1) = acc ++ [x0]) := by show _ = _; rw [HNX.out, HA1.out, addN_no HV.out.symm]
     go_wp2
     go_roundw
     case rel => exact ⟨k + 1, (na + 1), _, by go_num, rfl, by omega, by rw [HA2.out]; exact HNMf, HB6⟩
     case measure => simp [intOf]; omega
    ·subst hv
     have HA2 : Hid (nmL t (k + 1) = acc ++ [x0] ++ [x2]) := by show _ = _; rw [HNX.out, HA1.out, addN_yes HV.out.symm]
     have howns := (HNMf.out.2).alloc (.cells #[.string x2] 9)
     have hlts := (HNMf.out.2).lt
     go_wp2_with (at_builtin; refine wpList_append_lies _ rfl (.tmp 40) (.tmp 47) 22 rfl (B + 1) 9 i9 (.string ⟨#[]⟩) 1 16 Tryz.underlying22 hi9 hz90 hz91 hz92 rfl (by decide) _ (na + 1) (strC (acc ++ [x0])) rfl howns ⟨w6.heap.size, 0, none⟩ 1 1 [.string x2] rfl rfl (news_new1 w6 (.string x2) 9) (by simp [Value.oneCell']) (by decide) (by unfold maxLen; omega) (by omega) (by have := HB6.out.size; have := HSW.out; simp; omega) _ rfl ?_)
     intro gs caps w8 hown5 hgrow5 hloc5 hg5
     have HNMs : Hid (NamesAt (B + 1) w8 (.slice (some ⟨gs, 0, none⟩) ((na + 1) + 1) caps) ((na + 1) + 1) ((acc ++ [x0]) ++ [x2])) := ⟨by rw [List.length_append, HNMf.out.1]; rfl, by rw [strC_snoc]; exact hown5⟩
     have HB6Xs : Hid (Below (B + 1) w6 w8) := ((Below.refl _ _).alloc (by have := HSR.out; have := HB6.out.size; have := HSW.out; omega) _).trans (own_grown hgrow5 (fun c hc => (hlts c hc).1) (by have := HSR.out; have := HB6.out.size; have := HSW.out; simp; omega))
     have HB6s : Hid (Below (B + 1) W w8) := HB6.out.trans HB6Xs.out
     clear howns hlts hown5 hgrow5 hloc5 hg5
     go_wp2
     go_roundw
     case rel => exact ⟨k + 1, (na + 1) + 1, _, by go_num, rfl, by omega, by rw [HA2.out]; exact HNMs, HB6s⟩
     case measure => simp [intOf]; omega
  ·obtain rfl : k = n2 := by omega
   obtain ⟨ao, cc, rfl, hin⟩ := own_texts HNM.out.2 HNM.out.1
   have HIN : Hid (FlOwn 1 (B + 1) wr.heap.size wr ao na (tC (nmL t k))) := hin
   clear hin
   go_wp2
   obtain rfl : FF = Tryz.f22 := HFF.out
   go_ret
   have hb := HB.out
   exact ⟨ao, na, cc, rfl, HNM.out.1, HIN.out.wide (by omega) (Nat.le_refl _), HBW.out.trans (HBR.out.mono (by omega))⟩
end Go.Proofs.YtbepmeipjdpipaaGreat

namespace Go.Proofs.YtbepmeipjdpipaaGreat
open Go.RowKit
def btq (s : ByteArray) (i : Nat) : Nat := if h : i < s.size then s[i].toNat else 0
theorem btq_lt {s : ByteArray} {i : Nat} (h : i < s.size) : btq s i = s[i].toNat := by simp [btq, h]
def isLet (b : Nat) : Bool := decide (97 ≤ b) && decide (b ≤ 122)
def letTo (s : ByteArray) (k : Nat) : Bool := (List.range k).all fun i => isLet (btq s i)
theorem letTo_succ (s : ByteArray) (k : Nat) : letTo s (k + 1) = (letTo s k && isLet (btq s k)) := by simp [letTo, List.range_succ]
theorem letTo_no {s : ByteArray} {i k : Nat} (h : i < k) (h1 : isLet (btq s i) = false) : letTo s k = false := by
 rw [Bool.eq_false_iff]
 intro e
 have := List.all_eq_true.1 e i (List.mem_range.2 h)
 rw [h1] at this; cases this
def eachT : ByteArray := ⟨#[101, 97, 99, 104]⟩
theorem eachT_list : eachT.toList = [101, 97, 99, 104] := by decide +kernel
def qname (s : ByteArray) : Bool := letTo s s.size && (decide (1 ≤ s.size) && decide (s.size ≤ 4)) && !(s.toList == eachT.toList)
theorem isLetter_any (x : Int) (r : Bool) (w : World) (hr : r = (decide (97 ≤ x) && decide (x ≤ 122))) : Calls Tryz.prog 63 #[.int .i32 x] w fun e w' => e = .returned (.bool r) ∧ w = w' := by
 by_cases h1 : 97 ≤ x
 ·obtain ⟨d, hd⟩ : ∃ d, decide (x ≤ 122) = d := ⟨_, rfl⟩
  have hr2 : r = d := by rw [hr, hd]; simp [h1]
  subst hr2
  clear hr
  go_enter Tryz.func63, Tryz.ntmps63
  go_wp2
  go_ret
  exact ⟨rfl, rfl⟩
 ·have hr2 : r = false := by rw [hr]; simp [h1]
  subst hr2
  clear hr
  go_enter Tryz.func63, Tryz.ntmps63
  go_wp2
  go_ret
  exact ⟨rfl, rfl⟩
set_option maxHeartbeats 2000000 in
theorem specQName_any (T : ByteArray) (n : Nat) (r : Bool) (w : World) (hn : T.size = n) (hm : n ≤ 1048576) (hr : r = qname T) : Calls Tryz.prog 42 #[.string T] w fun e w' => e = .returned (.bool r) ∧ w = w' := by
 have HN : Hid (T.size = n) := hn
 have HR : Hid (r = (letTo T n && (decide (1 ≤ n) && decide (n ≤ 4)) && !(T.toList == eachT.toList))) := by show _ = _; rw [hr]; unfold qname; rw [hn]
 have hsz : (T.size : Int) = (n : Int) := by rw [hn]
 clear hn hr
 go_enter Tryz.func42, Tryz.ntmps42
 go_wp2
 go_loop [3] (fun i => ∃ k : Nat, i = .int .i64 k ∧ k ≤ n ∧ Hid (letTo T k = true)) (fun i => n - (intOf i).toNat)
 case atStart => exact ⟨0, rfl, by omega, rfl⟩
 case round =>
  obtain ⟨k, rfl, hk, HE⟩ := hrel
  by_cases hlt : k < n
  ·have hlt1 : (k : Int) < (n : Int) := by omega
   have hlt0 : (0 : Int) ≤ (k : Int) := by omega
   have hkT : k < T.size := by rw [HN.out]; exact hlt
   have hk2 : (k : Int) < (T.size : Int) := by omega
   have HB : Hid ((T[k]'hkT).toNat = btq T k) := by show _ = _; rw [btq_lt hkT]
   by_cases h1 : (((T[k]'hkT).toNat : Nat) : Int) < 97
   ·have hf : Hid (r = false) := by
     show _ = _
     rw [HR.out, letTo_no hlt (by rw [← HB.out]; unfold isLet; simp; omega)]; rfl
    go_wp2
    go_ret
    exact ⟨by rw [hf.out]; rfl, rfl⟩
   ·by_cases h2 : (((T[k]'hkT).toNat : Nat) : Int) > 122
    ·have hf : Hid (r = false) := by
      show _ = _
      rw [HR.out, letTo_no hlt (by rw [← HB.out]; unfold isLet; simp; omega)]; rfl
     go_wp2
     go_ret
     exact ⟨by rw [hf.out]; rfl, rfl⟩
    ·have HS : Hid (letTo T (k + 1) = true) := by
      show _ = _
      rw [letTo_succ, HE.out, ← HB.out]; unfold isLet; simp; omega
     go_wp2
     go_roundw
     case rel => exact ⟨k + 1, by go_num, by omega, HS⟩
     case measure => simp [intOf]; omega
  ·obtain rfl : k = n := by omega
   obtain ⟨d, HD⟩ : ∃ d, Hid (d = (decide (1 ≤ (k : Int)) && decide ((k : Int) ≤ 4))) := ⟨_, rfl⟩
   obtain ⟨e, he⟩ : ∃ e, (T.toList == eachT.toList) = e := ⟨_, rfl⟩
   have HRD : Hid (r = (d && !e)) := by
    show _ = _
    rw [HR.out, HE.out, HD.out, he, show decide (1 ≤ (k : Int)) = decide (1 ≤ k) from decide_eq_decide.2 (by omega), show decide ((k : Int) ≤ 4) = decide (k ≤ 4) from decide_eq_decide.2 (by omega), Bool.true_and]
   have HC : Hid (∀ w0, Calls Tryz.prog 20 #[.int .i64 (k : Int), .int .i64 1, .int .i64 4] w0 fun e w' => e = .returned (.bool d) ∧ w0 = w') := fun w0 => by rw [HD.out]; exact l01In_any (k : Int) 1 4 w0
   have he2 : (T.toList == [101, 97, 99, 104]) = e := by rw [← eachT_list]; exact he
   rcases Bool.eq_false_or_eq_true d with hd | hd
   all_goals
    subst hd
    go_wp2_with (go_at_call 20; refine (HC.out _).mono ?_; rintro e w1' ⟨rfl, rfl⟩)
    go_ret
    exact ⟨by rw [HRD.out]; first | rfl | simp [he2], rfl⟩
set_option maxHeartbeats 4000000 in
theorem queryName_any (T : ByteArray) (n : Nat) (r : Bool) (w : World) (hn : T.size = n) (hm : n ≤ 9223372036854775807) (hr : r = qname T) : Calls Tryz.prog 47 #[.string T] w fun e w' => e = .returned (.bool r) ∧ Hid (Below w.heap.size w w') := by
 have HN : Hid (T.size = n) := hn
 have HR : Hid (r = (letTo T n && (decide (1 ≤ n) && decide (n ≤ 4)) && !(T.toList == eachT.toList))) := by show _ = _; rw [hr]; unfold qname; rw [hn]
 have hsz : (T.size : Int) = (n : Int) := by rw [hn]
 clear hr
 by_cases h1 : n < 1
 ·have h1' : (n : Int) < 1 := by omega
  have hf : r = false := by rw [HR.out]; simp; omega
  subst hf
  clear hn
  go_enter Tryz.func47, Tryz.ntmps47
  go_wp2
  go_ret
  exact ⟨rfl, Below.refl _ _⟩
 ·have h1' : ¬ (n : Int) < 1 := by omega
  by_cases h4 : 4 < n
  ·have h4' : (n : Int) > 4 := by omega
   have hf : r = false := by rw [HR.out]; simp; omega
   subst hf
   clear hn
   go_enter Tryz.func47, Tryz.ntmps47
   go_wp2
   go_ret
   exact ⟨rfl, Below.refl _ _⟩
  ·have h4' : ¬ (n : Int) > 4 := by omega
   rcases Bool.eq_false_or_eq_true (T.toList == eachT.toList) with he | he
   ·have hf : r = false := by rw [HR.out, he]; simp
    have he2 : (T.toList == [101, 97, 99, 104]) = true := by rw [← eachT_list]; exact he
    subst hf
    clear hn
    go_enter Tryz.func47, Tryz.ntmps47
    go_wp2
    go_ret
    exact ⟨rfl, Below.refl _ _⟩
   ·have he2 : (T.toList == [101, 97, 99, 104]) = false := by rw [← eachT_list]; exact he
    have HR2 : Hid (r = letTo T n) := by show _ = _; rw [HR.out, he]; simp; omega
    subst hn
    clear hsz
    go_enter Tryz.func47, Tryz.ntmps47
    go_wp2
    go_loopw [4] (fun _ w' => ∃ pos, pos ≤ T.size ∧ w' = w.iter T pos ∧ Hid (letTo T pos = true)) (fun _ w' => T.size - w'.iterPos w.heap.size)
    case atStart => exact ⟨0, by omega, rfl, rfl⟩
    case round =>
     obtain ⟨pos, hp, rfl, HE⟩ := hrel
     by_cases hlt : pos < T.size
     ·have HB : Hid ((T[pos]'hlt).toNat = btq T pos) := by show _ = _; rw [btq_lt hlt]
      by_cases ha : (T[pos]'hlt).toNat < 128
      ·have hnx := fun ty => run_next_ascii (P := Tryz.prog) w T pos ty hlt ha
       obtain ⟨b, HBB⟩ : ∃ b : Nat, Hid (b = (T[pos]'hlt).toNat) := ⟨_, rfl⟩
       rw [← HBB.out] at hnx
       obtain ⟨q, HQ⟩ : ∃ q : Bool, Hid (q = (decide (97 ≤ (b : Int)) && decide ((b : Int) ≤ 122))) := ⟨_, rfl⟩
       have HQL : Hid (q = isLet (btq T pos)) := by show _ = _; rw [HQ.out, ← HB.out, ← HBB.out]; unfold isLet; rw [show decide (97 ≤ (b : Int)) = decide (97 ≤ b) from decide_eq_decide.2 (by omega), show decide ((b : Int) ≤ 122) = decide (b ≤ 122) from decide_eq_decide.2 (by omega)]
       have HS : Hid (q = true → letTo T (pos + 1) = true) := fun h => by rw [letTo_succ, HE.out, ← HQL.out, h]; rfl
       have HF : Hid (q = false → r = false) := fun h => by rw [HR2.out]; exact letTo_no hlt (by rw [← HQL.out]; exact h)
       clear ha
       rcases Bool.eq_false_or_eq_true q with hq | hq
       ·subst hq
        go_wp2_with (go_at_call 63; refine (isLetter_any (b : Int) true _ HQ.out).mono ?_; rintro e w1 ⟨rfl, rfl⟩)
        go_roundw
        case rel => exact ⟨pos + 1, by omega, rfl, HS.out (by simp)⟩
        case measure => simp; omega
       ·subst hq
        go_wp2_with (go_at_call 63; refine (isLetter_any (b : Int) false _ HQ.out).mono ?_; rintro e w1 ⟨rfl, rfl⟩)
        go_ret
        exact ⟨by rw [HF.out (by simp)]; rfl, (Below.refl _ _).alloc (Nat.le_refl _) _⟩
      ·have hnx := fun ty => run_next_any (P := Tryz.prog) w T pos ty hlt
       have hhi := decode_high T pos hlt (by omega)
       obtain ⟨b, HBB⟩ : ∃ b : Nat, Hid (b = (Utf8.decode T pos).1) := ⟨_, rfl⟩
       obtain ⟨p2, HP2⟩ : ∃ b : Nat, Hid (b = pos + (Utf8.decode T pos).2) := ⟨_, rfl⟩
       rw [← HBB.out, ← HP2.out] at hnx
       have hf : r = false := by rw [HR2.out]; exact letTo_no hlt (by rw [← HB.out]; unfold isLet; simp; omega)
       have HQ : Hid (false = (decide (97 ≤ (b : Int)) && decide ((b : Int) ≤ 122))) := by show _ = _; have := hhi.1; rw [← HBB.out] at this; simp; omega
       subst hf
       clear ha hhi
       go_wp2_with (go_at_call 63; refine (isLetter_any (b : Int) false _ HQ.out).mono ?_; rintro e w1 ⟨rfl, rfl⟩)
       go_ret
       exact ⟨rfl, (Below.refl _ _).alloc (Nat.le_refl _) _⟩
     ·have hnx := fun ty => run_next_end (P := Tryz.prog) w T pos ty hlt
      obtain rfl : pos = T.size := by omega
      have hf : r = true := by rw [HR2.out, HE.out]
      subst hf
      go_wp2
      go_ret
      exact ⟨rfl, (Below.refl _ _).alloc (Nat.le_refl _) _⟩
end Go.Proofs.YtbepmeipjdpipaaGreat

namespace Go.Proofs.YtbepmeipjdpipaaGreat
open Go.RowKit
theorem orI_lt {a b : Int} : orI a b < 0 ↔ (a < 0 ∨ (a = 0 ∧ b < 0)) := by unfold orI; split <;> omega
theorem cmpI_lt {a b : Int} : cmpI a b < 0 ↔ a < b := by unfold cmpI; split <;> (try split) <;> omega
theorem cmpI_eq {a b : Int} : cmpI a b = 0 ↔ a = b := by unfold cmpI; split <;> (try split) <;> omega
theorem ltE_iff {x y : Ed} : ltE x y = true ↔ (x.1 < y.1 ∨ (x.1 = y.1 ∧ (x.2.1 < y.2.1 ∨ (x.2.1 = y.2.1 ∧ x.2.2 < y.2.2)))) := by
 unfold ltE cmpE
 rw [decide_eq_true_eq, orI_lt, orI_lt, cmpI_lt, cmpI_lt, cmpI_lt, cmpI_eq, cmpI_eq]
theorem ltE_irrefl (x : Ed) : ltE x x = false := by
 rcases h : ltE x x with _ | _
 ·rfl
 ·rw [ltE_iff] at h; omega
theorem ltE_trans {x y z : Ed} (h : ltE x y = true) (h' : ltE y z = true) : ltE x z = true := by rw [ltE_iff] at *; omega
theorem ltE_asymm {x y : Ed} (h : ltE x y = true) : ltE y x = false := by
 rcases h' : ltE y x with _ | _
 ·rfl
 ·rw [ltE_iff] at h h'; omega
theorem ed_ext {x y : Ed} (h0 : x.1 = y.1) (h1 : x.2.1 = y.2.1) (h2 : x.2.2 = y.2.2) : x = y := Prod.ext h0 (Prod.ext h1 h2)
theorem ltE_total {x y : Ed} (h : x ≠ y) (h1 : ltE x y = false) : ltE y x = true := by
 rw [ltE_iff]
 have h2 : ¬ ltE x y = true := by rw [h1]; simp
 rw [ltE_iff] at h2
 by_cases e : x.1 = y.1 ∧ x.2.1 = y.2.1 ∧ x.2.2 = y.2.2
 ·exact absurd (ed_ext e.1 e.2.1 e.2.2) h
 ·omega
theorem ltE_or (x y : Ed) : ltE x y = true ∨ x = y ∨ ltE y x = true := by
 by_cases e : x = y
 ·exact .inr (.inl e)
 ·rcases h : ltE x y with _ | _
  ·exact .inr (.inr (ltE_total e h))
  ·exact .inl rfl
def SrtE (l : List Ed) : Prop := l.Pairwise fun x y => ltE x y = true
theorem srtE_ext : ∀ {l l' : List Ed}, SrtE l → SrtE l' → (∀ x, x ∈ l ↔ x ∈ l') → l = l'
 | [], [], _, _, _ => rfl
 | [], y :: ys, _, _, h => absurd ((h y).2 (by simp)) (by simp)
 | x :: xs, [], _, _, h => absurd ((h x).1 (by simp)) (by simp)
 | x :: xs, y :: ys, h1, h2, h => by
  have a1 := List.pairwise_cons.1 h1
  have a2 := List.pairwise_cons.1 h2
  have e : x = y := by
   have hx := (h x).1 (by simp)
   have hy := (h y).2 (by simp)
   rcases List.mem_cons.1 hx with e | e
   ·exact e
   ·rcases List.mem_cons.1 hy with e' | e'
    ·exact e'.symm
    ·have := a2.1 x e
     rw [ltE_asymm (a1.1 y e')] at this; cases this
  subst e
  congr 1
  refine srtE_ext a1.2 a2.2 fun z => ⟨fun hz => ?_, fun hz => ?_⟩
  ·rcases List.mem_cons.1 ((h z).1 (List.mem_cons_of_mem _ hz)) with e | e
   ·subst e; have := a1.1 z hz; rw [ltE_irrefl] at this; cases this
   ·exact e
  ·rcases List.mem_cons.1 ((h z).2 (List.mem_cons_of_mem _ hz)) with e | e
   ·subst e; have := a2.1 z hz; rw [ltE_irrefl] at this; cases this
   ·exact e
theorem SrtE.nodup {l : List Ed} (h : SrtE l) : l.Nodup := List.Pairwise.imp (fun {x y} (hxy : ltE x y = true) (e : x = y) => by subst e; rw [ltE_irrefl] at hxy; cases hxy) h
theorem srtE_of {l : List Ed} (h : l.Nodup) (h2 : l.Pairwise fun x y => ltE y x = false) : SrtE l := by
 have := h.and h2
 exact this.imp fun {x y} ⟨hne, hl⟩ => ltE_total (fun e => hne e.symm) hl
def putE (l : List Ed) (e : Ed) : List Ed := l.filter (fun x => ltE x e) ++ e :: l.filter (fun x => ltE e x)
theorem mem_putE {l : List Ed} {e x : Ed} : x ∈ putE l e ↔ x = e ∨ x ∈ l := by
 unfold putE
 simp only [List.mem_append, List.mem_cons, List.mem_filter]
 constructor
 ·rintro (h | h | h)
  ·exact .inr h.1
  ·exact .inl h
  ·exact .inr h.1
 ·rintro (h | h)
  ·exact .inr (.inl h)
  ·rcases ltE_or x e with h1 | h1 | h1
   ·exact .inl ⟨h, h1⟩
   ·exact .inr (.inl h1)
   ·exact .inr (.inr ⟨h, h1⟩)
theorem srt_putE {l : List Ed} (h : SrtE l) (e : Ed) : SrtE (putE l e) := by
 unfold putE SrtE
 rw [List.pairwise_append]
 refine ⟨List.Pairwise.filter _ h, ?_, ?_⟩
 ·rw [List.pairwise_cons]
  exact ⟨fun x hx => (List.mem_filter.1 hx).2, List.Pairwise.filter _ h⟩
 ·intro x hx y hy
  have h1 := (List.mem_filter.1 hx).2
  rcases List.mem_cons.1 hy with rfl | hy
  ·exact h1
  ·exact ltE_trans h1 (List.mem_filter.1 hy).2
theorem putE_len (l : List Ed) (e : Ed) : (putE l e).length ≤ l.length + 1 := by
 unfold putE
 have h1 : (l.filter (fun x => ltE x e)).length + (l.filter (fun x => ltE e x)).length ≤ l.length := by
  induction l with
  | nil => simp
  | cons x xs ih =>
   rcases h : ltE x e with _ | _
   ·simp only [List.filter_cons, h]
    rcases h2 : ltE e x with _ | _ <;> simp <;> omega
   ·simp only [List.filter_cons, h, ltE_asymm h]
    simp; omega
 simp; omega
def turnE (x : Ed) : Ed := (x.2.2, x.2.1, x.1)
def turnL (l : List Ed) : List Ed := l.foldl (fun acc x => putE acc (turnE x)) []
def okGAt (s : Int) (l : List Ed) (i : Nat) : Bool := okE s (eat l i) && (decide (i = 0) || ltE (eat l (i - 1)) (eat l i))
def okGTo (s : Int) (l : List Ed) : Nat → Bool
 | 0 => true
 | k + 1 => okGTo s l k && okGAt s l k
def okG (s : Int) (l : List Ed) : Bool := decide (1 ≤ s) && decide (s ≤ 12) && decide (l.length ≤ 40) && okGTo s l l.length
theorem okGTo_false {s : Int} {l : List Ed} {k n : Nat} (h : k < n) (hk : okGAt s l k = false) : okGTo s l n = false := by
 induction n with
 | zero => omega
 | succ n ih =>
  simp only [okGTo]
  rcases Nat.lt_or_ge k n with h1 | h1
  ·rw [ih h1]; rfl
  ·obtain rfl : k = n := by omega
   rw [hk]; simp
theorem okGTo_at {s : Int} {l : List Ed} {k n : Nat} (h : okGTo s l n = true) (hk : k < n) : okGAt s l k = true := by
 rcases hv : okGAt s l k with _ | _
 ·rw [okGTo_false hk hv] at h; cases h
 ·rfl
theorem okGTo_all {s : Int} {l : List Ed} {n : Nat} (h : ∀ k, k < n → okGAt s l k = true) : okGTo s l n = true := by
 induction n with
 | zero => rfl
 | succ n ih => simp only [okGTo]; rw [ih (fun k hk => h k (by omega)), h n (by omega)]; rfl
theorem okGAt_zero {s : Int} {l : List Ed} (h : okE s (eat l 0) = true) : okGAt s l 0 = true := by unfold okGAt; rw [h]; rfl
theorem okGAt_pos {s : Int} {l : List Ed} {i : Nat} (h : okE s (eat l i) = true) (hi : i ≠ 0) : okGAt s l i = ltE (eat l (i - 1)) (eat l i) := by unfold okGAt; rw [h]; simp [hi]
def gaddOk (s : Int) (l : List Ed) (e : Ed) : Bool := okG s l && okG s (putE l e)
def gaddL (s : Int) (l : List Ed) (e : Ed) : List Ed := if gaddOk s l e = true then putE l e else l
def gturn (s : Int) (l : List Ed) : List Ed := if okG s l = true then turnL l else l
end Go.Proofs.YtbepmeipjdpipaaGreat

namespace Go.Proofs.YtbepmeipjdpipaaGreat
open Go.RowKit
abbrev gv (s : Int) (a : Option Addr) (n cap : Nat) : Value := .agg #[.int .i64 s, .slice a n cap]
def marksE (K n : Nat) : List Ed := (List.range n).map fun i => (((K + i * 3 : Nat) : Int), ((K + i * 3 + 1 : Nat) : Int) % 256, ((K + i * 3 + 2 : Nat) : Int))
end Go.Proofs.YtbepmeipjdpipaaGreat

namespace Go.Proofs.YtbepmeipjdpipaaGreat
open Go.RowKit
structure Hold (w wi : World) (bx : List (Nat × List Value)) : Prop where
 bel : Below w.heap.size w wi
 box : ∀ p ∈ bx, Blk wi p.1 p.2.length (fun i => p.2.getD i (.int .i64 0))
theorem Hold.below {w wi wj : World} {bx : List (Nat × List Value)} (h : Hold w wi bx) (hb : Below wi.heap.size wi wj) : Hold w wj bx :=
 ⟨h.bel.trans (hb.mono h.bel.size), fun p hp => (h.box p hp).of_block (hb.block _ (h.box p hp).lt)⟩
theorem Hold.kept {w wi wj : World} {bx : List (Nat × List Value)} {p : Nat → Prop} (h : Hold w wi bx) (hk : KeptP p wi wj) (h1 : ∀ x ∈ bx, ¬ p x.1) (h2 : ∀ k, p k → w.heap.size ≤ k) : Hold w wj bx :=
 ⟨h.bel.trans (hk.to_below h.bel.size h2), fun x hx => hk.blk (h.box x hx) (h1 x hx)⟩
theorem blk_list (w : World) (b : Nat) (hb : b = w.heap.size) (vs : List Value) (T : TypeId) : Blk (w.alloc (.cells vs.toArray T)) b vs.length (fun i => vs.getD i (.int .i64 0)) :=
 hb ▸ blk_new w vs.toArray T _ (fun i hi => by
  have hi' : i < vs.length := by simpa using hi
  simp [List.getD, hi'])
theorem Hold.more {w wi : World} {bx : List (Nat × List Value)} (h : Hold w wi bx) (vs : List Value) (T : TypeId) : Hold w (wi.alloc (.cells vs.toArray T)) ((wi.heap.size, vs) :: bx) :=
 ⟨h.bel.alloc h.bel.size _, fun p hp => by
  rcases List.mem_cons.1 hp with rfl | hp
  ·exact blk_list wi _ rfl vs T
  ·exact (h.box p hp).alloc _⟩
theorem Hold.cell {w wi : World} {bx : List (Nat × List Value)} (h : Hold w wi bx) {b : Nat} {vs : List Value} {i : Nat} (hm : (b, vs) ∈ bx) (hi : i < vs.length) : wi.cell? ⟨b, i, none⟩ = some (vs.getD i (.int .i64 0)) := (h.box _ hm).cell (i := i) hi
theorem Hold.frozen {w wi : World} {bx : List (Nat × List Value)} (h : Hold w wi bx) {b : Nat} {vs : List Value} (i : Nat) (hm : (b, vs) ∈ bx) : wi.frozen? ⟨b, i, none⟩ = false := (h.box _ hm).frozen i
theorem Hold.lt {w wi : World} {bx : List (Nat × List Value)} (h : Hold w wi bx) {b : Nat} {vs : List Value} (hm : (b, vs) ∈ bx) : b < wi.heap.size := (h.box _ hm).lt
theorem Hold.none (w : World) : Hold w w [] := ⟨Below.refl _ _, fun p hp => by simp at hp⟩
theorem Hold.drew {w wi : World} {bx : List (Nat × List Value)} (h : Hold w wi bx) : Hold w wi.drew bx := h.below ((Below.refl _ _).drew)
theorem Hold.put {w wi : World} {bx : List (Nat × List Value)} {b j : Nat} {vs : List Value} (h : Hold w wi ((b, vs) :: bx)) (hj : j < vs.length) (v : Value) (hb : w.heap.size ≤ b) (hn : ∀ p ∈ bx, p.1 ≠ b) : Hold w (wi.setCell ⟨b, j, Option.none⟩ v) ((b, vs.set j v) :: bx) :=
 ⟨h.bel.setCell hb v, fun p hp => by
  rcases List.mem_cons.1 hp with rfl | hp
  ·have h1 := (h.box (b, vs) (by simp)).set j hj v
   show Blk _ b (vs.set j v).length _
   rw [List.length_set]
   refine h1.congr fun i hi => ?_
   by_cases e : i = j
   ·subst e; simp [List.getD, show i < vs.length from hj]
   ·simp [List.getD, e, List.getElem?_set_ne (Ne.symm e)]
  ·exact (h.box p (List.mem_cons_of_mem _ hp)).of_block (Below.heap_setCell _ _ _ _ (hn p hp))⟩
end Go.Proofs.YtbepmeipjdpipaaGreat

namespace Go.Proofs.YtbepmeipjdpipaaGreat
open Go.RowKit
section
variable {P : Program}
theorem run_append_none (w : World) (base : Nat) (t ty e : TypeId) (i : TypeInfo) (size : Nat) (ht : P.underlying t = some (.slice e)) (hi : P.info? e = some i) (v : Value) (n c : Nat) (xs : List Value) (hown : w.ownsRow base e size v n xs) :
  (Builtin.append_ #[t, t] ty #[v, .slice none 0 c]).run P w = .ok v w := by
 rcases hown.2 with ⟨rfl, rfl⟩ | ⟨g, cap, cur, rfl, _, _, hnc, _⟩
 ·simp [Builtin.append_, run_underlying ht, Go.sizeOf, typeInfo, hi, Builtin.lenOf, Builtin.firstCells]
 ·simp [Builtin.append_, run_underlying ht, Go.sizeOf, typeInfo, hi, Builtin.lenOf, Builtin.firstCells, hnc, storeCells]
theorem wp_append_row (w : World) {o : Oper} {a : Act} {K : Act → World → Prop} {Q : Exit → Act → World → Prop} (s x : Operand) (t : TypeId)
  (ho : o.op = .call { callee := .builtin .append, args := #[s, x], argTypes := #[t, t] })
  (base : Nat) (e : TypeId) (i : TypeInfo) (z : Value) (size bytes : Nat) (ht : P.underlying t = some (.slice e)) (hi : P.info? e = some i) (hz : i.zero = some z)
  (hsize : i.size = size) (hby : i.bytes = bytes) (hzs : z.cells.size = size) (hsz : 0 < size)
  (v : Value) (n : Nat) (xs : List Value) (hs : a.eval s = v) (hown : w.ownsRow base e size v n xs)
  (ao : Option Addr) (m c : Nat) (news : List Value) (hx : a.eval x = .slice ao m c) (h0 : ao = none → m = 0) (hl : news.length = m * size) (hnews : ∀ ad, ao = some ad → ∀ j u, news[j]? = some u → w.cell? (ad.add j) = some u) (h1 : ∀ u ∈ news, u.oneCell' = true)
  (h63 : n + m ≤ maxLen) (hbytes : (n + m) * bytes ≤ 140737488355328) (hbase : base ≤ w.heap.size)
  (h : ∀ v' w', w'.ownsRow base e size v' (n + m) (xs ++ news) → w.grownBy w' v.ownBlock → K (a.put o.dst v') w') : o.wp P a w K Q := by
 cases ao with
 | some ad => exact wp_append_own w s x t ho base e i z size bytes ht hi hz hsize hby hzs hsz v n xs hs hown ad m c news hx hl (hnews ad rfl) h1 h63 hbytes hbase (fun v' w' h2 h3 _ => h v' w' h2 h3)
 | none =>
  obtain rfl := h0 rfl
  have hnil : news = [] := List.length_eq_zero_iff.1 (by simpa using hl)
  subst hnil
  have hr := run_append_none (P := P) w base t o.type e i size ht hi v n c xs hown
  unfold Oper.wp execOp
  simp only [ho, resolve, invoke, builtin, Sem.run_bind, Sem.run_pure, Result.andThen_ok, List.map_toArray, List.map_cons, List.map_nil, hs, hx, hr]
  exact h v w (by simpa using hown) ⟨rfl, rfl, rfl, Nat.le_refl _, fun _ _ _ => rfl⟩
theorem wpList_append_row (w : World) {ops : Array Oper} {rest : List Oper} {o : Oper} {a : Act} {Q : Exit → Act → World → Prop} (hgd : o.guard = none) (s x : Operand) (t : TypeId)
  (ho : o.op = .call { callee := .builtin .append, args := #[s, x], argTypes := #[t, t] })
  (base : Nat) (e : TypeId) (i : TypeInfo) (z : Value) (size bytes : Nat) (ht : P.underlying t = some (.slice e)) (hi : P.info? e = some i) (hz : i.zero = some z)
  (hsize : i.size = size) (hby : i.bytes = bytes) (hzs : z.cells.size = size) (hsz : 0 < size)
  (v : Value) (n : Nat) (xs : List Value) (hs : a.eval s = v) (hown : w.ownsRow base e size v n xs)
  (ao : Option Addr) (m c : Nat) (news : List Value) (hx : a.eval x = .slice ao m c) (h0 : ao = none → m = 0) (hl : news.length = m * size) (hnews : ∀ ad, ao = some ad → ∀ j u, news[j]? = some u → w.cell? (ad.add j) = some u) (h1 : ∀ u ∈ news, u.oneCell' = true)
  (h63 : n + m ≤ maxLen) (hbytes : (n + m) * bytes ≤ 140737488355328) (hbase : base ≤ w.heap.size)
  (h : ∀ v' w', w'.ownsRow base e size v' (n + m) (xs ++ news) → w.grownBy w' v.ownBlock → wpList P ops Q rest (a.put o.dst v') w') : wpList P ops Q (o :: rest) a w :=
 wpList_plain hgd fun _ hK => wp_append_row w s x t ho base e i z size bytes ht hi hz hsize hby hzs hsz v n xs hs hown ao m c news hx h0 hl hnews h1 h63 hbytes hbase fun v' w' h2 h3 => hK _ _ (h v' w' h2 h3)
end
def rowCells (l : List Int) : List Value := l.map (Value.int .i64)
theorem rowCells_len (l : List Int) : (rowCells l).length = l.length * 1 := by simp [rowCells]
theorem rowCells_one (l : List Int) : ∀ u ∈ rowCells l, u.oneCell' = true := by intro u hu; obtain ⟨x, _, rfl⟩ := List.mem_map.1 hu; rfl
theorem rowOwn_of {B n : Nat} {w : World} {v : Value} {l : List Int} (h : w.ownsRow B 3 1 v n (rowCells l)) (hn : l.length = n) : ∃ a cap, v = .slice a n cap ∧ RowOwn B w.heap.size w a l := by
 rcases h.2 with ⟨rfl, rfl⟩ | ⟨g, cap, cur, rfl, hg, hb, _⟩
 ·exact ⟨none, 0, rfl, .inl (List.length_eq_zero_iff.1 hn)⟩
 ·refine ⟨_, cap, rfl, .inr ⟨g, rfl, hg, (Array.getElem?_eq_some_iff.1 hb).1, ?_⟩⟩
  have := blk_own h
  rw [Nat.mul_one, ← hn] at this
  exact this.congr fun i hi => by simp [rowCells, List.getD, hi]
end Go.Proofs.YtbepmeipjdpipaaGreat

namespace Go.Proofs.YtbepmeipjdpipaaGreat
open Go.RowKit
abbrev Pc := Int × Int × List Int
def pat (l : List Pc) (i : Nat) : Pc := l.getD i (0, 0, [])
theorem pat_get {l : List Pc} {i : Nat} (h : i < l.length) : pat l i = l[i] := by simp [pat, List.getD, h]
abbrev pv (a : Option Addr) (n cap : Nat) : Value := .agg #[.slice a n cap]
def PieceAt (lo hi : Nat) (w : World) (b o : Nat) (x : Pc) : Prop :=
 w.cell? ⟨b, o, none⟩ = some (.int .i64 x.1) ∧ w.cell? ⟨b, o + 1, none⟩ = some (.int .u8 x.2.1) ∧ ∃ ra rc, w.cell? ⟨b, o + 2, none⟩ = some (.slice ra x.2.2.length rc) ∧ RowIn lo hi w ra x.2.2
def PathIn (lo hi : Nat) (w : World) (a : Option Addr) (l : List Pc) : Prop :=
 l = [] ∨ ∃ b o, a = some ⟨b, o, none⟩ ∧ lo ≤ b ∧ b < hi ∧ ∀ i, i < l.length → PieceAt lo hi w b (o + i * 3) (pat l i)
theorem PieceAt.below {lo hi B : Nat} {w w' : World} {b o : Nat} {x : Pc} (h : PieceAt lo hi w b o x) (hb : Below B w w') (hB : hi ≤ B) (hl : b < B) : PieceAt lo hi w' b o x := by
 obtain ⟨h1, h2, ra, rc, h3, h4⟩ := h
 exact ⟨cell_below h1 hb hl, cell_below h2 hb hl, ra, rc, cell_below h3 hb hl, h4.below hb hB⟩
theorem PathIn.below {lo hi B : Nat} {w w' : World} {a : Option Addr} {l : List Pc} (h : PathIn lo hi w a l) (hb : Below B w w') (hB : hi ≤ B) : PathIn lo hi w' a l := by
 rcases h with h | ⟨b, o, e, h1, h2, h3⟩
 ·exact .inl h
 ·exact .inr ⟨b, o, e, h1, h2, fun i hi => (h3 i hi).below hb hB (by omega)⟩
theorem PathIn.wide {lo hi lo' hi' : Nat} {w : World} {a : Option Addr} {l : List Pc} (h : PathIn lo hi w a l) (h1 : lo' ≤ lo) (h2 : hi ≤ hi') : PathIn lo' hi' w a l := by
 rcases h with h | ⟨b, o, e, h3, h4, h5⟩
 ·exact .inl h
 ·refine .inr ⟨b, o, e, by omega, by omega, fun i hi => ?_⟩
  obtain ⟨g1, g2, ra, rc, g3, g4⟩ := h5 i hi
  exact ⟨g1, g2, ra, rc, g3, g4.wide h1 h2⟩
theorem PathIn.kept {lo hi : Nat} {p : Nat → Prop} {w w' : World} {a : Option Addr} {l : List Pc} (h : PathIn lo hi w a l) (hk : KeptP p w w') (hh : hi ≤ w.heap.size) (hp : ∀ k, lo ≤ k → k < hi → ¬ p k) : PathIn lo hi w' a l := by
 rcases h with h | ⟨b, o, e, h1, h2, h3⟩
 ·exact .inl h
 ·refine .inr ⟨b, o, e, h1, h2, fun i hi => ?_⟩
  obtain ⟨g1, g2, ra, rc, g3, g4⟩ := h3 i hi
  exact ⟨hk.cell g1 (by omega) (hp b h1 h2), hk.cell g2 (by omega) (hp b h1 h2), ra, rc, hk.cell g3 (by omega) (hp b h1 h2), g4.kept hk hh hp⟩
theorem PathIn.piece {lo hi : Nat} {w : World} {a : Option Addr} {l : List Pc} (h : PathIn lo hi w a l) {k : Nat} (hk : k < l.length) : ∃ b o, a = some ⟨b, o, none⟩ ∧ lo ≤ b ∧ b < hi ∧ PieceAt lo hi w b (o + k * 3) (pat l k) := by
 rcases h with rfl | ⟨b, o, e, h1, h2, h3⟩
 ·simp at hk
 ·exact ⟨b, o, e, h1, h2, h3 k hk⟩
def kidsLen (l : List Pc) : Nat → Nat
 | 0 => 0
 | k + 1 => kidsLen l k + (pat l k).2.2.length
set_option maxHeartbeats 1000000 in
set_option maxRecDepth 100000 in
theorem toInts_any (lo hi : Nat) (a : Option Addr) (n cap : Nat) (l : List Int) (w : World) (ha : RowIn lo hi w a l) (hh : hi ≤ w.heap.size) (hn : l.length = n) (hm : n ≤ 1048576) :
  Calls Tryz.prog 11 #[.slice a n cap] w fun e w' => e = .returned (.slice (some ⟨w.heap.size, 0, none⟩) n n) ∧ RowOwn w.heap.size w'.heap.size w' (some ⟨w.heap.size, 0, none⟩) l ∧ Below w.heap.size w w' ∧ w'.heap.size = w.heap.size + 1 := by
 have HN : Hid (l.length = n) := hn
 have HA : Hid (RowIn lo hi w a l) := ha
 have HH : Hid (hi ≤ w.heap.size) := hh
 have hmk := run_make_row' (P := Tryz.prog) 36 3 (.int .i64 0) 8 Tryz.underlying36 Tryz.info3 rfl .i64 .i64 n (by omega) (by omega)
 clear ha hn hh
 go_enter Tryz.func11, Tryz.ntmps11
 go_wp2
 go_loopw [4] (fun i wr => ∃ k : Nat, i = .int .i64 k ∧ k ≤ n ∧ Hid (Blk wr w.heap.size n (fun j => if j < k then .int .i64 (l.getD j 0) else .int .i64 0)) ∧ Hid (Below w.heap.size w wr) ∧ wr.heap.size = w.heap.size + 1) (fun i _ => n - (intOf i).toNat)
 case atStart =>
  refine ⟨0, rfl, by omega, ?_, below1 _ _, by simp⟩
  obtain ⟨c, hb, hn', hc⟩ := World.rowIs_made w (.int .i64 0) n 3
  exact ⟨c, 3, hb, fun i hi => by rw [hc i hi]; simp⟩
 case round =>
  obtain ⟨k, rfl, hk, HB, HL, hsz⟩ := hrel
  by_cases hlt : k < n
  ·have hlt1 : (k : Int) < (n : Int) := by omega
   obtain ⟨b, o, rfl, h1, h2, hc⟩ : ∃ b o, a = some ⟨b, o, none⟩ ∧ lo ≤ b ∧ b < hi ∧ ∀ i, i < l.length → w.cell? ⟨b, o + i, none⟩ = some (.int .i64 (l.getD i 0)) := by
    rcases HA.out with rfl | h
    ·exact absurd HN.out (by simp; omega)
    ·exact h
   have hca := cell_below (hc k (by rw [HN.out]; exact hlt)) HL.out (by have := HH.out; omega)
   clear hc h1 h2
   have hcb := HB.out.cell hlt
   have hfb := HB.out.frozen k
   go_wp2
   go_roundw
   case rel =>
    refine ⟨k + 1, by go_num, by omega, ?_, HL.out.setCell (Nat.le_refl _) _, by simpa using hsz⟩
    refine (HB.out.set k hlt _).congr fun j hj => ?_
    by_cases e : j = k
    ·subst e; simp
    ·by_cases e2 : j < k
     ·simp [e, e2, show j < k + 1 by omega]
     ·simp [e, e2, show ¬ j < k + 1 by omega]
   case measure => simp [intOf]; omega
  ·go_wp2
   go_ret
   refine ⟨rfl, ?_, HL.out, hsz⟩
   by_cases h0 : l = []
   ·exact .inl h0
   ·refine .inr ⟨_, rfl, Nat.le_refl _, by omega, ?_⟩
    rw [HN.out]
    exact HB.out.congr fun j hj => by simp [show j < k by omega]
theorem RowOwn.setCellP {lo hi b j : Nat} {w : World} {a : Option Addr} {l : List Int} (h : RowOwn lo hi w a l) (hb : b < lo) (v : Value) : RowOwn lo hi (w.setCell ⟨b, j, none⟩ v) a l := by
 rcases h with h | ⟨g, e, h1, h2, h3⟩
 ·exact .inl h
 ·exact .inr ⟨g, e, h1, h2, h3.of_block (Below.heap_setCell w ⟨b, j, none⟩ v g (by simp; omega))⟩
end Go.Proofs.YtbepmeipjdpipaaGreat

namespace Go.Proofs.YtbepmeipjdpipaaGreat
open Go.RowKit
def PartPc (lo hi : Nat) (w : World) (b : Nat) (l : List Pc) (n k : Nat) : Prop :=
 ∃ (f : Nat → Value) (R : Nat → Option Addr) (C : Nat → Nat), Blk w b (n * 3) f ∧ ∀ i, i < k → f (i * 3) = .int .i64 (pat l i).1 ∧ f (i * 3 + 1) = .int .u8 (pat l i).2.1 ∧ f (i * 3 + 2) = .slice (R i) (pat l i).2.2.length (C i) ∧ RowOwn lo hi w (R i) (pat l i).2.2 ∧
  ((pat l i).2.2 ≠ [] → (∀ c, R i = some ⟨c, 0, none⟩ → c ≠ b) ∧ ∀ j, j < i → (pat l j).2.2 ≠ [] → R j ≠ R i)
def PathOwn (lo hi : Nat) (w : World) (a : Option Addr) (l : List Pc) : Prop :=
 l = [] ∨ ∃ b, a = some ⟨b, 0, none⟩ ∧ lo ≤ b ∧ b < hi ∧ PartPc lo hi w b l l.length l.length
theorem PathOwn.toIn {lo hi : Nat} {w : World} {a : Option Addr} {l : List Pc} (h : PathOwn lo hi w a l) : PathIn lo hi w a l := by
 rcases h with h | ⟨b, e, h1, h2, f, R, C, hB, hp⟩
 ·exact .inl h
 ·refine .inr ⟨b, 0, e, h1, h2, fun i hi => ?_⟩
  obtain ⟨e1, e2, e3, e4, _⟩ := hp i hi
  refine ⟨?_, ?_, R i, C i, ?_, e4.toIn⟩
  ·rw [Nat.zero_add, hB.cell (by omega), e1]
  ·rw [Nat.zero_add, hB.cell (by omega), e2]
  ·rw [Nat.zero_add, hB.cell (by omega), e3]
theorem PartPc.of_blocks {lo hi b : Nat} {w w' : World} {l : List Pc} {n k : Nat} (h : PartPc lo hi w b l n k) (h1 : w'.heap[b]? = w.heap[b]?) (h2 : ∀ c, lo ≤ c → c < hi → w'.heap[c]? = w.heap[c]?) : PartPc lo hi w' b l n k := by
 obtain ⟨f, R, C, h3, h4⟩ := h
 refine ⟨f, R, C, h3.of_block h1, fun i hi => ?_⟩
 obtain ⟨e0, e1, e2, e3, e4⟩ := h4 i hi
 refine ⟨e0, e1, e2, ?_, e4⟩
 rcases e3 with h | ⟨c, ec, h5, h6, h7⟩
 ·exact .inl h
 ·exact .inr ⟨c, ec, h5, h6, h7.of_block (h2 c h5 h6)⟩
theorem PartPc.below {lo hi B b : Nat} {w w' : World} {l : List Pc} {n k : Nat} (h : PartPc lo hi w b l n k) (hb : Below B w w') (hB : hi ≤ B) (hl : b < B) : PartPc lo hi w' b l n k :=
 h.of_blocks (hb.block b hl) (fun c _ h2 => hb.block c (by omega))
theorem PathOwn.below {lo hi B : Nat} {w w' : World} {a : Option Addr} {l : List Pc} (h : PathOwn lo hi w a l) (hb : Below B w w') (hB : hi ≤ B) : PathOwn lo hi w' a l := by
 rcases h with h | ⟨b, e, h1, h2, h3⟩
 ·exact .inl h
 ·exact .inr ⟨b, e, h1, h2, h3.below hb hB (by omega)⟩
theorem PartPc.wide {lo hi lo' hi' b : Nat} {w : World} {l : List Pc} {n k : Nat} (h : PartPc lo hi w b l n k) (h1 : lo' ≤ lo) (h2 : hi ≤ hi') : PartPc lo' hi' w b l n k := by
 obtain ⟨f, R, C, h3, h4⟩ := h
 refine ⟨f, R, C, h3, fun i hi => ?_⟩
 obtain ⟨e0, e1, e2, e3, e4⟩ := h4 i hi
 exact ⟨e0, e1, e2, e3.wide h1 h2, e4⟩
theorem PathOwn.wide {lo hi lo' hi' : Nat} {w : World} {a : Option Addr} {l : List Pc} (h : PathOwn lo hi w a l) (h1 : lo' ≤ lo) (h2 : hi ≤ hi') : PathOwn lo' hi' w a l := by
 rcases h with h | ⟨b, e, h3, h4, h5⟩
 ·exact .inl h
 ·exact .inr ⟨b, e, by omega, by omega, h5.wide h1 h2⟩
theorem PathOwn.kept {lo hi : Nat} {p : Nat → Prop} {w w' : World} {a : Option Addr} {l : List Pc} (h : PathOwn lo hi w a l) (hk : KeptP p w w') (hh : hi ≤ w.heap.size) (hp : ∀ c, lo ≤ c → c < hi → ¬ p c) : PathOwn lo hi w' a l := by
 rcases h with h | ⟨b, e, h1, h2, h3⟩
 ·exact .inl h
 ·exact .inr ⟨b, e, h1, h2, h3.of_blocks (hk.block b (by omega) (hp b h1 h2)) (fun c h4 h5 => hk.block c (by omega) (hp c h4 h5))⟩
theorem PathOwn.setCell {lo hi b j : Nat} {w : World} {a : Option Addr} {l : List Pc} (h : PathOwn lo hi w a l) (hb : b < lo) (v : Value) : PathOwn lo hi (w.setCell ⟨b, j, none⟩ v) a l := by
 rcases h with h | ⟨g, e, h1, h2, h3⟩
 ·exact .inl h
 ·exact .inr ⟨g, e, h1, h2, h3.of_blocks (Below.heap_setCell w ⟨b, j, none⟩ v g (by simp; omega)) (fun c h4 _ => Below.heap_setCell w ⟨b, j, none⟩ v c (by simp; omega))⟩
abbrev putPc (w : World) (b k : Nat) (x y : Value) (z : Value) : World := ((w.setCell ⟨b, k * 3, none⟩ x).setCell ⟨b, k * 3 + 1, none⟩ y).setCell ⟨b, k * 3 + 2, none⟩ z
theorem putPc_block (w : World) (b k c : Nat) (x y z : Value) (h : c ≠ b) : (putPc w b k x y z).heap[c]? = w.heap[c]? := by
 unfold putPc
 rw [Below.heap_setCell _ _ _ _ (by simpa using h), Below.heap_setCell _ _ _ _ (by simpa using h), Below.heap_setCell _ _ _ _ (by simpa using h)]
theorem PartPc.step {lo hi hi' b g cap : Nat} {w : World} {l : List Pc} {n k : Nat} (h : PartPc lo hi w b l n k) (hk : k < n) (hb : b < hi) (hr : RowOwn hi hi' w (some ⟨g, 0, none⟩) (pat l k).2.2) (hlo : lo ≤ hi) (hhi : hi ≤ hi') :
  PartPc lo hi' (putPc w b k (.int .i64 (pat l k).1) (.int .u8 (pat l k).2.1) (.slice (some ⟨g, 0, none⟩) (pat l k).2.2.length cap)) b l n (k + 1) := by
 obtain ⟨f, R, C, h1, h2⟩ := h
 have hgb : (pat l k).2.2 ≠ [] → hi ≤ g := by
  intro hne
  rcases hr with h | ⟨c, e, h3, _, _⟩
  ·exact absurd h hne
  ·simp at e; omega
 have keep : ∀ {x y : Nat} {a : Option Addr} {r : List Int}, RowOwn x y w a r → (r ≠ [] → a ≠ some ⟨b, 0, none⟩) → RowOwn x y (putPc w b k (.int .i64 (pat l k).1) (.int .u8 (pat l k).2.1) (.slice (some ⟨g, 0, none⟩) (pat l k).2.2.length cap)) a r := by
  intro x y a r hx hne
  by_cases h0 : r = []
  ·exact .inl h0
  ·rcases hx with h | ⟨c, e, h3, h4, h5⟩
   ·exact absurd h h0
   ·have hcb : c ≠ b := by intro e2; subst e2; exact hne h0 e
    exact .inr ⟨c, e, h3, h4, h5.of_block (putPc_block _ _ _ _ _ _ _ hcb)⟩
 refine ⟨_, fun i => if i = k then some ⟨g, 0, none⟩ else R i, fun i => if i = k then cap else C i, ((h1.set (k * 3) (by omega) _).set (k * 3 + 1) (by omega) _).set (k * 3 + 2) (by omega) _, fun i hi2 => ?_⟩
 by_cases e : i = k
 ·subst e
  refine ⟨by simp, by simp, by simp, ?_, ?_⟩
  ·simp only [if_true]
   exact keep (hr.wide hlo (Nat.le_refl _)) (fun hne e => by have := hgb hne; simp at e <;> omega)
  ·intro hne
   have hge := hgb hne
   refine ⟨fun c hc => by simp at hc; omega, fun j hj hnj => ?_⟩
   have : ¬ j = i := by omega
   simp only [this, if_false, if_true]
   intro e3
   obtain ⟨_, _, _, e4, _⟩ := h2 j (by omega)
   rcases e4 with h | ⟨c, ec, _, hc, _⟩
   ·exact hnj h
   ·rw [e3] at ec; simp at ec <;> omega
 ·obtain ⟨e0, e1, e2, e3, e4⟩ := h2 i (by omega)
  have n1 : ¬ i * 3 = k * 3 + 2 := by omega
  have n2 : ¬ i * 3 = k * 3 + 1 := by omega
  have n3 : ¬ i * 3 = k * 3 := by omega
  have n4 : ¬ i * 3 + 1 = k * 3 + 2 := by omega
  have n5 : ¬ i * 3 + 1 = k * 3 + 1 := by omega
  have n6 : ¬ i * 3 + 1 = k * 3 := by omega
  have n7 : ¬ i * 3 + 2 = k * 3 + 2 := by omega
  have n8 : ¬ i * 3 + 2 = k * 3 + 1 := by omega
  have n9 : ¬ i * 3 + 2 = k * 3 := by omega
  refine ⟨by simp only [n1, n2, n3, if_false]; exact e0, by simp only [n4, n5, n6, if_false]; exact e1, by simp only [n7, n8, n9, if_false, e]; exact e2, ?_, ?_⟩
  ·simp only [e, if_false]
   exact (keep e3 (fun hne he => (e4 hne).1 b he rfl)).wide (Nat.le_refl _) hhi
  ·intro hne
   simp only [e, if_false]
   refine ⟨(e4 hne).1, fun j hj hnj => ?_⟩
   have : ¬ j = k := by omega
   simp only [this, if_false]
   exact (e4 hne).2 j hj hnj
theorem Tryz.info127 : (Tryz.prog.info? 127).map (fun i => (i.zero, i.size, i.bytes)) = some (some (.agg #[.int .i64 0, .int .u8 0, .slice none 0 0]), 3, 40) := by kernel_rfl
end Go.Proofs.YtbepmeipjdpipaaGreat

namespace Go.Proofs.YtbepmeipjdpipaaGreat
open Go.RowKit
def posP (K : Nat) (l : List Pc) (i : Nat) : Nat := K + kidsLen l i + i * 2
def mkAtP (K : Nat) (l : List Pc) (i : Nat) : Pc := (((posP K l i : Nat) : Int), ((posP K l i + 1 : Nat) : Int) % 256, marks (posP K l i + 2) (pat l i).2.2.length)
def mkToP (K : Nat) (l : List Pc) (k : Nat) : List Pc := (List.range l.length).map fun i => if i < k then mkAtP K l i else pat l i
theorem PartPc.turned {lo hi b n k : Nat} {w w1 : World} {l l' : List Pc} {f : Nat → Value} {R : Nat → Option Addr} {C : Nat → Nat} {r' : List Int} {x' y' : Int}
  (h1 : Blk w b (n * 3) f)
  (h2 : ∀ i, i < n → f (i * 3) = .int .i64 (pat l i).1 ∧ f (i * 3 + 1) = .int .u8 (pat l i).2.1 ∧ f (i * 3 + 2) = .slice (R i) (pat l i).2.2.length (C i) ∧ RowOwn lo hi w (R i) (pat l i).2.2 ∧ ((pat l i).2.2 ≠ [] → (∀ c, R i = some ⟨c, 0, none⟩ → c ≠ b) ∧ ∀ j, j < i → (pat l j).2.2 ≠ [] → R j ≠ R i))
  (hk : k < n) (hK : KeptP (fun c => (pat l k).2.2 ≠ [] ∧ R k = some ⟨c, 0, none⟩) ((w.setCell ⟨b, k * 3, none⟩ (.int .i64 x')).setCell ⟨b, k * 3 + 1, none⟩ (.int .u8 y')) w1) (hr : RowOwn lo hi w1 (R k) r') (hl : r'.length = (pat l k).2.2.length)
  (e1 : pat l' k = (x', y', r')) (e2 : ∀ i, i < n → i ≠ k → pat l' i = pat l i) : PartPc lo hi w1 b l' n n := by
 have hrow : ∀ i, i < n → (pat l' i).2.2.length = (pat l i).2.2.length := by
  intro i hi
  by_cases e : i = k
  ·subst e; rw [e1]; exact hl
  ·rw [e2 i hi e]
 have hne : ∀ i, i < n → ((pat l' i).2.2 ≠ [] ↔ (pat l i).2.2 ≠ []) := fun i hi => ne_nil_len (hrow i hi)
 have hb0 := (h1.set (k * 3) (by omega) (.int .i64 x')).set (k * 3 + 1) (by omega) (.int .u8 y')
 have hb1 := hK.blk hb0 (fun ⟨h3, h4⟩ => ((h2 k hk).2.2.2.2 h3).1 b h4 rfl)
 refine ⟨_, R, C, hb1, fun i hin => ?_⟩
 obtain ⟨p0, p1, p2, p3, p4⟩ := h2 i hin
 have n1 : ¬ i * 3 = k * 3 + 1 := by omega
 have n2 : ¬ i * 3 + 1 = k * 3 := by omega
 have n3 : ¬ i * 3 + 2 = k * 3 + 1 := by omega
 have n4 : ¬ i * 3 + 2 = k * 3 := by omega
 refine ⟨?_, ?_, by simp only [n3, n4, if_false]; rw [p2, hrow i hin], ?_, ?_⟩
 ·simp only [n1, if_false]
  by_cases e : i = k
  ·subst e; rw [e1]; simp
  ·have n5 : ¬ i * 3 = k * 3 := by omega
   simp only [n5, if_false]; rw [p0, e2 i hin e]
 ·by_cases e : i = k
  ·subst e; rw [e1]; simp
  ·have n5 : ¬ i * 3 + 1 = k * 3 + 1 := by omega
   simp only [n5, n2, if_false]; rw [p1, e2 i hin e]
 ·by_cases e : i = k
  ·subst e; rw [e1]; exact hr
  ·rw [e2 i hin e]
   by_cases hi0 : (pat l i).2.2 = []
   ·exact .inl hi0
   ·rcases p3 with h | ⟨c, ec, h5, h6, h7⟩
    ·exact absurd h hi0
    ·have hcb : c ≠ b := (p4 hi0).1 c ec
     have h8 := (h7.of_block (Below.heap_setCell w ⟨b, k * 3, none⟩ (.int .i64 x') c (by simpa using hcb))).of_block (Below.heap_setCell _ ⟨b, k * 3 + 1, none⟩ (.int .u8 y') c (by simpa using hcb))
     refine .inr ⟨c, ec, h5, h6, hK.blk h8 (fun ⟨h9, h10⟩ => ?_)⟩
     rcases Nat.lt_or_ge i k with h | h
     ·exact ((h2 k hk).2.2.2.2 h9).2 i h hi0 (by rw [ec, h10])
     ·exact (p4 hi0).2 k (by omega) h9 (by rw [ec, h10])
 ·intro h3
  have h4 := p4 ((hne i hin).1 h3)
  exact ⟨h4.1, fun j hj hj0 => h4.2 j hj ((hne j (by omega)).1 hj0)⟩
end Go.Proofs.YtbepmeipjdpipaaGreat
