import Derived.Test.YtbepmeipjdpipaaGreatJn06
import Derived.Test.YtbepmeipjdpipaaGreatJn03
import Derived.Test.YtbepmeipjdpipaaGreatJn23
import Derived.Test.YtbepmeipjdpipaaGreatJn04
import Derived.Deep.Strs
import Derived.ProofKit
import Derived.OpenShut
import Derived.ChangeOld
namespace Go.Proofs.YtbepmeipjdpipaaGreat
open Go.RowKit

theorem empty_eq {s : ByteArray} : (s.toList == (⟨#[]⟩ : ByteArray).toList) = decide (s = ⟨#[]⟩) := toList_eq
set_option maxHeartbeats 8000000 in
set_option maxRecDepth 100000 in
theorem filterOk_any (lo hi : Nat) (a : Option Addr) (n cap : Nat) (ns : List Tx) (f0 : Tx) (f1 : Int) (f2 : Tx) (f3 : Int) (w : World) (ha : FlIn 1 lo hi w a n (tC ns)) (hh : hi ≤ w.heap.size) (hn : ns.length = n) (hm : n ≤ 9223372036854775807) :
    Calls Tryz.prog 29 #[.agg #[.string f0, .int .i64 f1, .string f2, .int .i64 f3], .slice a n cap] w fun e w' => e = .returned (.bool (flOk ns (f0, f1, f2, f3))) ∧ Hid (Below w.heap.size w w') := by
  obtain ⟨B, HB⟩ : ∃ B, Hid (B = w.heap.size) := ⟨_, rfl⟩
  obtain ⟨W, HW⟩ : ∃ W, Hid (W = w.alloc (.cells #[.string f0, .int .i64 f1, .string f2, .int .i64 f3] 53)) := ⟨_, rfl⟩
  have HBW : Hid (Below w.heap.size w W) := by rw [HW.out]; exact below1 w _
  have HX : Hid (Blk W B 4 (q4 (.string f0) (.int .i64 f1) (.string f2) (.int .i64 f3))) := by rw [HW.out]; exact blk_four w B HB.out _ _ _ _ _
  obtain ⟨u0, HU0⟩ : ∃ b : Bool, Hid (b = inL f0 ns) := ⟨_, rfl⟩
  obtain ⟨u2, HU2⟩ : ∃ b : Bool, Hid (b = inL f2 ns) := ⟨_, rfl⟩
  have HC : Hid (∀ (x : Tx) (r : Bool), r = inL x ns → Calls Tryz.prog 50 #[.slice a n cap, .string x] W fun e w' => e = .returned (.bool r) ∧ W = w') := fun x r hr => contains_any lo hi a n cap ns x r W (ha.below HBW.out hh) hn hm hr
  obtain ⟨r, HR⟩ : ∃ b : Bool, Hid (b = flOk ns (f0, f1, f2, f3)) := ⟨_, rfl⟩
  have HRE : Hid (r = (u0 && (decide (1 ≤ f1) && decide (f1 ≤ 2)) && ((f2.toList == (⟨#[]⟩ : ByteArray).toList) || (u2 && decide (f3 = 0))) && (decide (0 ≤ f3) && decide (f3 ≤ 99)))) := by rw [HR.out, HU0.out, HU2.out]; rfl
  rw [← HR.out]
  clear ha hh hn hm HR
  go_enter Tryz.func29, Tryz.ntmps29
  obtain ⟨FF, HFF⟩ : ∃ F : Func, Hid (F = Tryz.f29) := ⟨_, rfl⟩
  rw [← HFF.out]
  go_upto_region 1 with fail
  rw [← HB.out]
  first | rw [← HW.out] | (rw [show _ = W from HW.out.symm])
  clear HW
  obtain ⟨q0, q1, q2, q3⟩ := q_cells HX.out
  by_cases ho : f1 = 1
  · subst ho
    have HO : Hid ((decide ((1 : Int) ≤ 1) && decide ((1 : Int) ≤ 2)) = true) := by show _ = _; decide
    rw [HO.out, Bool.and_true] at HRE
    go_wp2_with fail
    refine (HC.out f0 u0 HU0.out).mono ?_
    rintro e1 w1 ⟨rfl, rfl⟩
    rcases Bool.eq_false_or_eq_true u0 with h | h
    · subst h
      by_cases he : f2 = ⟨#[]⟩
      · subst he
        have HE : Hid (r = (decide (0 ≤ f3) && decide (f3 ≤ 99))) := by show _ = _; rw [HRE.out]; simp
        by_cases h0 : 0 ≤ f3
        · have hr : r = decide (f3 ≤ 99) := by rw [HE.out, decide_eq_true h0]; rfl
          subst hr
          go_wp2
          obtain rfl : FF = Tryz.f29 := HFF.out
          go_ret
          exact ⟨rfl, HBW.out⟩
        · have hr : r = false := by rw [HE.out, decide_eq_false h0]; rfl
          subst hr
          go_wp2
          obtain rfl : FF = Tryz.f29 := HFF.out
          go_ret
          exact ⟨rfl, HBW.out⟩
      · have he0 : (f2.toList == (⟨#[]⟩ : ByteArray).toList) = false := by rw [empty_eq]; exact decide_eq_false he
        have HE : Hid (r = ((u2 && decide (f3 = 0)) && (decide (0 ≤ f3) && decide (f3 ≤ 99)))) := by show _ = _; rw [HRE.out, he0]; rfl
        have he1 : f2.toList.isEmpty = false := by rw [List.isEmpty_eq_false_iff]; intro e; exact he (toList_inj.1 (by rw [e]; decide +kernel))
        clear he0
        have HNE : Hid (¬ f2 = ⟨#[]⟩) := he
        clear he
        by_cases h0 : f3 = 0
        · subst h0
          have hr : r = u2 := by rw [HE.out]; simp
          subst hr
          go_wp2_with fail
          refine (HC.out f2 r HU2.out).mono ?_
          rintro e1 w1 ⟨rfl, rfl⟩
          go_wp2
          obtain rfl : FF = Tryz.f29 := HFF.out
          go_ret
          exact ⟨rfl, HBW.out⟩
        · have hr : r = false := by rw [HE.out, decide_eq_false h0]; simp
          subst hr
          go_wp2
          obtain rfl : FF = Tryz.f29 := HFF.out
          go_ret
          exact ⟨rfl, HBW.out⟩
    · subst h
      have hr : r = false := by rw [HRE.out]; simp
      subst hr
      go_wp2
      obtain rfl : FF = Tryz.f29 := HFF.out
      go_ret
      exact ⟨rfl, HBW.out⟩
  by_cases ho2 : f1 = 2
  · subst ho2
    have HO : Hid ((decide ((1 : Int) ≤ 2) && decide ((2 : Int) ≤ 2)) = true) := by show _ = _; decide
    rw [HO.out, Bool.and_true] at HRE
    go_wp2_with fail
    refine (HC.out f0 u0 HU0.out).mono ?_
    rintro e1 w1 ⟨rfl, rfl⟩
    rcases Bool.eq_false_or_eq_true u0 with h | h
    · subst h
      by_cases he : f2 = ⟨#[]⟩
      · subst he
        have HE : Hid (r = (decide (0 ≤ f3) && decide (f3 ≤ 99))) := by show _ = _; rw [HRE.out]; simp
        by_cases h0 : 0 ≤ f3
        · have hr : r = decide (f3 ≤ 99) := by rw [HE.out, decide_eq_true h0]; rfl
          subst hr
          go_wp2
          obtain rfl : FF = Tryz.f29 := HFF.out
          go_ret
          exact ⟨rfl, HBW.out⟩
        · have hr : r = false := by rw [HE.out, decide_eq_false h0]; rfl
          subst hr
          go_wp2
          obtain rfl : FF = Tryz.f29 := HFF.out
          go_ret
          exact ⟨rfl, HBW.out⟩
      · have he0 : (f2.toList == (⟨#[]⟩ : ByteArray).toList) = false := by rw [empty_eq]; exact decide_eq_false he
        have HE : Hid (r = ((u2 && decide (f3 = 0)) && (decide (0 ≤ f3) && decide (f3 ≤ 99)))) := by show _ = _; rw [HRE.out, he0]; rfl
        have he1 : f2.toList.isEmpty = false := by rw [List.isEmpty_eq_false_iff]; intro e; exact he (toList_inj.1 (by rw [e]; decide +kernel))
        clear he0
        have HNE : Hid (¬ f2 = ⟨#[]⟩) := he
        clear he
        by_cases h0 : f3 = 0
        · subst h0
          have hr : r = u2 := by rw [HE.out]; simp
          subst hr
          go_wp2_with fail
          refine (HC.out f2 r HU2.out).mono ?_
          rintro e1 w1 ⟨rfl, rfl⟩
          go_wp2
          obtain rfl : FF = Tryz.f29 := HFF.out
          go_ret
          exact ⟨rfl, HBW.out⟩
        · have hr : r = false := by rw [HE.out, decide_eq_false h0]; simp
          subst hr
          go_wp2
          obtain rfl : FF = Tryz.f29 := HFF.out
          go_ret
          exact ⟨rfl, HBW.out⟩
    · subst h
      have hr : r = false := by rw [HRE.out]; simp
      subst hr
      go_wp2
      obtain rfl : FF = Tryz.f29 := HFF.out
      go_ret
      exact ⟨rfl, HBW.out⟩
  have hr : r = false := by
    rw [HRE.out]
    have : (decide (1 ≤ f1) && decide (f1 ≤ 2)) = false := by
      rw [Bool.and_eq_false_iff, decide_eq_false_iff_not, decide_eq_false_iff_not]; omega
    rw [this]; simp
  subst hr
  go_wp2
  obtain rfl : FF = Tryz.f29 := HFF.out
  go_ret
  exact ⟨rfl, HBW.out⟩

set_option maxHeartbeats 8000000 in
set_option maxRecDepth 100000 in
theorem chosenOk_any (lo hi : Nat) (a : Option Addr) (n cap : Nat) (o : List Tx) (lo2 hi2 : Nat) (b : Option Addr) (m cap2 : Nat) (ns : List Tx) (w : World) (ha : FlIn 1 lo hi w a n (tC o)) (hn : o.length = n) (hm : n ≤ 1048576) (hcap : n ≤ cap ∧ cap ≤ 9223372036854775807) (hb : FlIn 1 lo2 hi2 w b m (tC ns)) (hn2 : ns.length = m) (hm2 : m ≤ 9223372036854775807) :
    Calls Tryz.prog 30 #[.slice a n cap, .slice b m cap2] w fun e w' => e = .returned (.bool (ousOk ns o n && decide (0 < o.length))) ∧ w = w' := by
  have HA : Hid (FlIn 1 lo hi w a n (tC o)) := ha
  have HN : Hid (o.length = n) := hn
  have HC : Hid (∀ (x : Tx) (r : Bool), r = inL x ns → Calls Tryz.prog 50 #[.slice b m cap2, .string x] w fun e w' => e = .returned (.bool r) ∧ w = w') := fun x r hr => contains_any lo2 hi2 b m cap2 ns x r w hb hn2 hm2 hr
  have HD : Hid (∀ (k : Nat) (x : Tx) (r : Bool), k ≤ n → r = inL x (o.take k) → Calls Tryz.prog 50 #[.slice a k cap, .string x] w fun e w' => e = .returned (.bool r) ∧ w = w') := fun k x r hk hr => contains_any lo hi a k cap (o.take k) x r w (ha.take hk) (by rw [List.length_take]; omega) (by omega) hr
  obtain ⟨r, HR⟩ : ∃ b : Bool, Hid (b = (ousOk ns o n && decide (0 < o.length))) := ⟨_, rfl⟩
  rw [← HR.out]
  clear ha hn hb hn2 hm2
  obtain ⟨hcp, hcm⟩ := hcap
  go_enter Tryz.func30, Tryz.ntmps30
  go_wp2
  go_loop [9] (fun i => ∃ k : Nat, i = .int .i64 (k : Int) ∧ k ≤ n ∧ Hid (ousOk ns o k = true)) (fun i => n - (intOf i).toNat)
  case atStart => exact ⟨0, rfl, by omega, rfl⟩
  case round =>
    obtain ⟨k, rfl, hk, HP⟩ := hrel
    by_cases hlt : k < n
    · have hlt1 : (k : Int) < (n : Int) := by omega
      have hlt0 : (0 : Int) ≤ (k : Int) := by omega
      obtain ⟨bb, oo, rfl, _, _, hc⟩ := HA.out.at hlt
      obtain ⟨y, HY⟩ : ∃ y, Hid (y = tat o k) := ⟨_, rfl⟩
      have p0 := hc 0 (by omega)
      rw [tC0, ← HY.out, Nat.mul_one, Nat.add_zero] at p0
      clear hc
      obtain ⟨u, HU⟩ : ∃ b : Bool, Hid (b = inL y ns) := ⟨_, rfl⟩
      obtain ⟨v, HV⟩ : ∃ b : Bool, Hid (b = inL y (o.take k)) := ⟨_, rfl⟩
      have HSU : Hid (ouOk ns o k = (u && !v)) := by rw [HU.out, HV.out, HY.out]; rfl
      have HNO : Hid (ouOk ns o k = false → r = false) := fun h => by rw [HR.out, ousOk_no (i := k) (by omega) h]; rfl
      go_wp2_with fail
      refine (HC.out y u HU.out).mono ?_
      rintro e1 w1 ⟨rfl, rfl⟩
      rcases Bool.eq_false_or_eq_true u with h | h
      · subst h
        go_wp2_with fail
        refine (HD.out k y v (by omega) HV.out).mono ?_
        rintro e1 w1 ⟨rfl, rfl⟩
        rcases Bool.eq_false_or_eq_true v with h | h
        · subst h
          have hr : r = false := HNO.out (by rw [HSU.out]; rfl)
          subst hr
          go_wp2
          go_ret
          exact ⟨rfl, rfl⟩
        · subst h
          go_wp2
          go_roundw
          case rel => exact ⟨k + 1, by go_num, by omega, by show _ = _; rw [ousOk_succ, HP.out, HSU.out]; rfl⟩
          case measure => simp [intOf]; omega
      · subst h
        have hr : r = false := HNO.out (by rw [HSU.out]; rfl)
        subst hr
        go_wp2
        go_ret
        exact ⟨rfl, rfl⟩
    · obtain rfl : k = n := by omega
      have hr : r = decide ((k : Int) > 0) := by
        rw [HR.out, HP.out, HN.out]
        by_cases h : 0 < k
        · rw [decide_eq_true h, decide_eq_true (by omega)]; rfl
        · rw [decide_eq_false h, decide_eq_false (by omega)]; rfl
      subst hr
      go_wp2
      go_ret
      exact ⟨rfl, rfl⟩
end Go.Proofs.YtbepmeipjdpipaaGreat

namespace Go.Proofs.YtbepmeipjdpipaaGreat
open Go.RowKit Go.Maps

def setS (l : List Tx) : DataW Unit := setOf (.agg []) (l.map fun x => Lit.string x.data.toList)
theorem has_setS (l : List Tx) (x : Tx) : Maps.has (setS l) (.string x.data.toList) = inL x l := by
  unfold setS
  rw [has_setOf _ _ _ (fun y hy => by obtain ⟨_, _, rfl⟩ := List.mem_map.1 hy; trivial), List.any_map]
  unfold inL
  congr 1
  funext y
  show (y.data.toList == x.data.toList) = decide (y = x)
  rw [Bool.eq_iff_iff, beq_iff_eq, decide_eq_true_eq]
  exact ⟨Go.WideShapes.bytes_inj, fun h => by rw [h]⟩
theorem setS_snoc (l : List Tx) (x : Tx) : setS (l ++ [x]) = (setS l).put (.string x.data.toList) (.agg []) := by simp [setS, setOf_snoc]
theorem lawS : Keyed Tryz.prog 9 := string_keyed Tryz.underlying9
theorem zeroU (w : World) : (zeroValue 86).run Tryz.prog w = .ok (.agg #[]) w := by kernel_rfl
theorem own_keptP {w w' : World} {B e n : Nat} {v : Value} {xs : List Value} {p : Nat → Prop} (h : w.ownsRow B e 1 v n xs) (hb : KeptP p w w') (hp : ∀ c, v.ownBlock = some c → ¬ p c) : w'.ownsRow B e 1 v n xs := by
  refine ⟨h.1, ?_⟩
  rcases h.2 with h5 | ⟨g, cap, cur, e, h5, h6, h7⟩
  · exact .inl h5
  · exact .inr ⟨g, cap, cur, e, h5, by rw [hb.block g (Array.getElem?_eq_some_iff.1 h6).1 (hp g (by rw [e]; rfl))]; exact h6, h7⟩
theorem grown_keptP {w w' : World} {r : Option Nat} (h : w.grownBy w' r) : KeptP (fun c => r = some c) w w' := ⟨h.os, h.tape, h.output, h.size, fun k hk hn => h.block k hk (fun e => hn e.symm)⟩

structure NI (B g2 : Nat) (x0 x2 : Tx) (W wr : World) (v : Value) (nn : Nat) (l : List Tx) : Prop where
  nm : NamesAt (B + 1) wr v nn l
  off : ∀ c, v.ownBlock = some c → c ≠ B + 2 ∧ c ≠ g2
  mp : wr.ownsMap Tryz.prog 9 (unitElem (H := Unit)) (B + 2) nn (setS l)
  tx : Blk wr g2 2 (fun i => if i = 0 then .string x0 else .string x2)
  bel : Below (B + 1) W wr
theorem NI.kept {B g2 nn : Nat} {x0 x2 : Tx} {W wr w' : World} {v : Value} {l : List Tx} {p : Nat → Prop} (h : NI B g2 x0 x2 W wr v nn l) (hk : KeptP p wr w') (h1 : ¬ p g2) (h2 : ¬ p (B + 2)) (h3 : ∀ c, v.ownBlock = some c → ¬ p c) (h4 : ∀ c, p c → B + 1 ≤ c) (h5 : B + 1 ≤ wr.heap.size) : NI B g2 x0 x2 W w' v nn l := by
  refine ⟨⟨h.nm.1, own_keptP h.nm.2 hk h3⟩, h.off, ?_, hk.blk h.tx h1, h.bel.trans (hk.to_below h5 h4)⟩
  obtain ⟨es, clock, hb, F, hs, hD⟩ := h.mp
  exact ⟨es, clock, by rw [hk.block (B + 2) (Array.getElem?_eq_some_iff.1 hb).1 h2]; exact hb, F, hs, hD⟩
theorem NI.below {B g2 nn : Nat} {x0 x2 : Tx} {W wr w' : World} {v : Value} {l : List Tx} (h : NI B g2 x0 x2 W wr v nn l) (hb : Below wr.heap.size wr w') (h5 : B + 1 ≤ wr.heap.size) : NI B g2 x0 x2 W w' v nn l :=
  h.kept (p := fun _ => False) (KeptP.of_below hb (fun _ hk _ => hk)) (fun h => h) (fun h => h) (fun _ _ h => h) (fun _ h => h.elim) h5
def nmj (acc : List Tx) (x0 x2 : Tx) (j : Nat) : List Tx := if j = 0 then acc else if j = 1 then addN acc x0 else addN (addN acc x0) x2
def pickj (x0 x2 : Tx) (j : Nat) : Tx := if j = 0 then x0 else x2
theorem nmj_succ (acc : List Tx) (x0 x2 : Tx) {j : Nat} (h : j < 2) : nmj acc x0 x2 (j + 1) = addN (nmj acc x0 x2 j) (pickj x0 x2 j) := by
  rcases (show j = 0 ∨ j = 1 by omega) with h | h <;> subst h <;> rfl

set_option maxHeartbeats 16000000 in
set_option maxRecDepth 100000 in
theorem names_any (lo hi : Nat) (e : Bool) (a b c : Option Addr) (n1 c1 n2 c2 n3 c3 : Nat) (o : List Tx) (t : List At) (f : List Fl) (w : World) (ha : QIn lo hi w a b c n1 n2 n3 (tC o) (aC t) (fC f)) (hh : hi ≤ w.heap.size) (hz : n2 ≤ 1048576) (hs : ∀ i, i < n2 → (aat t i).1.size ≤ 1048576 ∧ (aat t i).2.2.size ≤ 1048576) :
    Calls Tryz.prog 28 #[qv e a n1 c1 b n2 c2 c n3 c3] w fun e w' => ∃ ao nn cc, e = .returned (.slice ao nn cc) ∧ Hid ((nmL t n2).length = nn) ∧ Hid (FlOwn 1 w.heap.size w'.heap.size w' ao nn (tC (nmL t n2))) ∧ Hid (Below w.heap.size w w') := by
  obtain ⟨i9, hi9, hz90, hz91, hz92⟩ := info_parts info9s
  have hmm := @run_makeMap Tryz.prog
  obtain ⟨B, HB⟩ : ∃ B, Hid (B = w.heap.size) := ⟨_, rfl⟩
  obtain ⟨W, HW⟩ : ∃ W, Hid (W = ((w.alloc (.cells #[.bool e, .slice a n1 c1, .slice b n2 c2, .slice c n3 c3] 32)).alloc (.cells #[] 9)).alloc (.map #[] 0)) := ⟨_, rfl⟩
  have HBW : Hid (Below w.heap.size w W) := by rw [HW.out]; exact below3 w _ _ _
  have HSW : Hid (W.heap.size = B + 3) := by rw [HW.out, HB.out]; show _ = _; simp
  have HQ : Hid (Blk W B 4 (q4 (.bool e) (.slice a n1 c1) (.slice b n2 c2) (.slice c n3 c3))) := by rw [HW.out]; exact ((blk_four w B HB.out _ _ _ _ _).alloc _).alloc _
  have HO : Hid (NamesAt (B + 1) W (.slice (some ⟨B + 1, 0, none⟩) 0 0) 0 []) := by
    have h := World.ownsRow_made (w.alloc (.cells #[.bool e, .slice a n1 c1, .slice b n2 c2, .slice c n3 c3] 32)) (base := B + 1) (e := 9) (size := 1) #[] 0 (by rw [HB.out]; simp) (Nat.zero_le _) rfl
    have e1 : (w.alloc (.cells #[.bool e, .slice a n1 c1, .slice b n2 c2, .slice c n3 c3] 32)).heap.size = B + 1 := by rw [HB.out]; simp
    rw [e1] at h
    have h2 := own_below h (below1 _ (.map #[] 0))
    rw [← HW.out] at h2
    exact ⟨rfl, h2⟩
  have HM : Hid (W.ownsMap Tryz.prog 9 (unitElem (H := Unit)) (B + 2) 0 (setS [])) := by
    have h := World.ownsMap_made (H := Unit) ((w.alloc (.cells #[.bool e, .slice a n1 c1, .slice b n2 c2, .slice c n3 c3] 32)).alloc (.cells #[] 9)) Tryz.prog 9 (unitElem (H := Unit))
    have e1 : ((w.alloc (.cells #[.bool e, .slice a n1 c1, .slice b n2 c2, .slice c n3 c3] 32)).alloc (.cells #[] 9)).heap.size = B + 2 := by rw [HB.out]; simp
    rw [e1, ← HW.out] at h
    exact h
  have HOF0 : Hid (∀ c, (Value.slice (some ⟨B + 1, 0, none⟩) 0 0).ownBlock = some c → c ≠ B + 2) := fun c hc => by
    have : B + 1 = c := by simpa [Value.ownBlock] using hc
    omega
  have HA : Hid (FlIn 3 lo hi W b n2 (aC t)) := ha.2.1.below HBW.out hh
  have HH : Hid (hi ≤ B) := by rw [HB.out]; exact hh
  have HSZ : Hid (∀ i, i < n2 → (aat t i).1.size ≤ 1048576 ∧ (aat t i).2.2.size ≤ 1048576) := hs
  clear ha hh hs
  go_enter Tryz.func28, Tryz.ntmps28
  obtain ⟨FF, HFF⟩ : ∃ F : Func, Hid (F = Tryz.f28) := ⟨_, rfl⟩
  rw [← HFF.out]
  go_upto_region 2 with fail
  rw [← HB.out]
  first | rw [← HW.out] | (rw [show _ = W from HW.out.symm])
  clear HW hmm
  obtain ⟨q0, q1, q2, q3⟩ := q_cells HQ.out
  go_wp2
  clear q0 q1 q2 q3
  go_loopw [16, 3] (fun i v wr => ∃ (k nn : Nat) (v3 : Value), i = .int .i64 (k : Int) ∧ v3 = v ∧ k ≤ n2 ∧ Hid (NamesAt (B + 1) wr v3 nn (nmL t k)) ∧ Hid (∀ c, v3.ownBlock = some c → c ≠ B + 2) ∧ Hid (wr.ownsMap Tryz.prog 9 (unitElem (H := Unit)) (B + 2) nn (setS (nmL t k))) ∧ Hid (Below (B + 1) W wr)) (fun i _ _ => n2 - (intOf i).toNat)
  case atStart => exact ⟨0, 0, _, rfl, rfl, by omega, HO, HOF0, HM, Below.refl _ _⟩
  case round =>
    obtain ⟨k, na, v3, rfl, rfl, hk, HNM, HOF, HMP, HBR⟩ := hrel
    have HSR : Hid (B + 3 ≤ wr.heap.size) := by rw [← HSW.out]; exact HBR.out.size
    by_cases hlt : k < n2
    · have hlt1 : (k : Int) < (n2 : Int) := by omega
      have hlt0 : (0 : Int) ≤ (k : Int) := by omega
      obtain ⟨g, og, rfl, _, hgh, hc⟩ := (HA.out.below HBR.out (by have := HH.out; omega)).at hlt
      obtain ⟨x, HX⟩ : ∃ x, Hid (x = aat t k) := ⟨_, rfl⟩
      have p0 := hc 0 (by omega)
      have p1 := hc 1 (by omega)
      have p2 := hc 2 (by omega)
      have hsk := HSZ.out k hlt
      rw [aC0, ← HX.out] at p0
      rw [aC1, ← HX.out] at p1
      rw [aC2, ← HX.out] at p2
      rw [← HX.out] at hsk
      simp only [Nat.add_zero] at p0
      rw [← Nat.add_assoc] at p1 p2
      obtain ⟨x0, x1, x2⟩ := x
      dsimp only at p0 p1 p2 hsk
      have HSK : Hid (x0.size ≤ 1048576 ∧ x2.size ≤ 1048576) := hsk
      clear hc hgh hsk
      obtain ⟨acc, HACC⟩ : ∃ l, Hid (l = nmL t k) := ⟨_, rfl⟩
      have HNX : Hid (nmL t (k + 1) = addN (addN acc x0) x2) := by show _ = _; rw [HACC.out]; show addN (addN _ _) _ = _; rw [← HX.out]
      have hna : na ≤ 2097152 := by have h1 := nmL_len t k; have h2 := HNM.out.1; omega
      rw [← HACC.out] at HNM HMP
      obtain ⟨S, HS⟩ : ∃ S, Hid (S = wr.heap.size) := ⟨_, rfl⟩
      obtain ⟨X, HXX⟩ : ∃ X, Hid (X = (wr.alloc (.cells #[.string x0, .string x1, .string x2] 49)).alloc (.cells #[.string x0, .string x2] 9)) := ⟨_, rfl⟩
      have HBX : Hid (Below wr.heap.size wr X) := by rw [HXX.out]; exact below2 wr _ _
      have HSX : Hid (X.heap.size = S + 2) := by rw [HXX.out, HS.out]; show _ = _; simp
      have HNI : Hid (NI B (S + 1) x0 x2 W X v3 na (nmj acc x0 x2 0)) := by
        have hoff : ∀ c, v3.ownBlock = some c → c ≠ B + 2 ∧ c ≠ S + 1 := fun c hc => ⟨HOF.out c hc, by have := (HNM.out.2.lt c hc).2; have := HS.out; omega⟩
        refine ⟨⟨HNM.out.1, own_below HNM.out.2 HBX.out⟩, hoff, ?_, ?_, HBR.out.trans (HBX.out.mono (by have := HSR.out; omega))⟩
        · obtain ⟨es, clock, hb, F, hs, hD⟩ := HMP.out
          exact ⟨es, clock, by rw [HBX.out.block (B + 2) (Array.getElem?_eq_some_iff.1 hb).1]; exact hb, F, hs, hD⟩
        · rw [HXX.out]
          exact blk_two _ (S + 1) (by rw [HS.out]; simp) _ _ _
      go_upto_region 6 with fail
      rw [← HS.out]
      first | rw [← HXX.out] | (rw [show _ = X from HXX.out.symm])
      have HSB : Hid (B + 3 ≤ S) := by rw [HS.out]; exact HSR.out
      clear HXX p0 p1 p2 HNM HMP HOF HBX HS
      
      go_wp2
      go_loopw [26, 3] (fun i v wr => ∃ (j nn : Nat) (v3 : Value), i = .int .i64 (j : Int) ∧ v3 = v ∧ j ≤ 2 ∧ nn ≤ na + j ∧ Hid (NI B (S + 1) x0 x2 W wr v3 nn (nmj acc x0 x2 j)) ∧ Hid (S + 2 ≤ wr.heap.size)) (fun i _ _ => 2 - (intOf i).toNat)
      case atStart => exact ⟨0, na, _, rfl, rfl, by omega, by omega, HNI, by rw [HSX.out]; exact Nat.le_refl _⟩
      case round =>
        obtain ⟨j, nb, v3, rfl, rfl, hj, hnb, HI, HSZ2⟩ := hrel
        by_cases hj2 : j < 2
        · have hj1 : (j : Int) < 2 := by omega
          have hj0 : (0 : Int) ≤ (j : Int) := by omega
          obtain ⟨y, HY⟩ : ∃ y, Hid (y = pickj x0 x2 j) := ⟨_, rfl⟩
          have py : wr.cell? ⟨S + 1, j, none⟩ = some (.string y) := by
            rw [HI.out.tx.cell (i := j) hj2, HY.out]
            rcases (show j = 0 ∨ j = 1 by omega) with h | h <;> subst h <;> rfl
          have hys : y.size ≤ 1048576 := by
            rw [HY.out]; have := HSK.out
            rcases (show j = 0 ∨ j = 1 by omega) with h | h <;> subst h
            · exact this.1
            · exact this.2
          obtain ⟨l, HL⟩ : ∃ l, Hid (l = nmj acc x0 x2 j) := ⟨_, rfl⟩
          have HNJ : Hid (nmj acc x0 x2 (j + 1) = addN l y) := by show _ = _; rw [nmj_succ _ _ _ hj2, HL.out, HY.out]
          rw [← HL.out] at HI
          obtain ⟨D, HD⟩ : ∃ D, Hid (D = setS l) := ⟨_, rfl⟩
          have hmp : wr.ownsMap Tryz.prog 9 (unitElem (H := Unit)) (B + 2) nb D := by rw [HD.out]; exact HI.out.mp
          obtain ⟨u, HU⟩ : ∃ u, Hid (u = inL y l) := ⟨_, rfl⟩
          have hhas : Maps.has D (.string y.data.toList) = u := by rw [HD.out, has_setS, HU.out]
          have hkey : keyOf Tryz.prog 9 (.string y) = some (.string y.data.toList) := Go.WideMaps.keyOf_string_mk Tryz.underlying9 (by unfold maxLen; omega)
          rcases Bool.eq_false_or_eq_true u with hu | hu
          · subst hu
            have HNO : Hid (addN l y = l) := addN_no HU.out.symm
            go_wp2_with (first | (at_lookup; refine wpList_lookup_own_unit _ rfl _ _ 85 rfl 9 86 lawS Tryz.underlying85 (zeroU _) (B + 2) nb _ rfl hmp _ _ rfl hkey ?_) | go_in)
            go_roundw
            case rel => exact ⟨j + 1, nb, _, by go_num, rfl, by omega, by omega, by rw [HNJ.out, HNO.out]; exact HI.out.below (below1 wr _) (by have := HSZ2.out; have := HSB.out; omega), by have := HSZ2.out; show _ ≤ _; simp; omega⟩
            case measure => simp [intOf]; omega
          · subst hu
            have HYES : Hid (addN l y = l ++ [y]) := addN_yes HU.out.symm
            have HIA : Hid (NI B (S + 1) x0 x2 W (wr.alloc (.cells #[] 86)) v3 nb l) := HI.out.below (below1 wr _) (by have := HSZ2.out; have := HSB.out; omega)
            go_wp2_with (first | (at_lookup; refine wpList_lookup_own_unit _ rfl _ _ 85 rfl 9 86 lawS Tryz.underlying85 (zeroU _) (B + 2) nb _ rfl hmp _ _ rfl hkey ?_) | (at_mapUpdate; refine wpList_mapUpdate_own _ rfl _ _ _ 85 rfl 9 86 lawS Tryz.underlying85 (unitElem (H := Unit)) (B + 2) nb _ rfl (hmp.alloc _) (by unfold maxLen; omega) _ _ _ rfl rfl hkey _ [] unitElem_mk ?_; intro w1 hown1 hgrow1))
            refine (newText_any y _ (by omega)).mono ?_
            rintro e1 w2 ⟨rfl, HB2⟩
            have HK1 : Hid (KeptP (fun c => some (B + 2) = some c) (wr.alloc (.cells #[] 86)) w1) := grown_keptP hgrow1
            have HS1 : Hid (S + 2 ≤ w1.heap.size) := by have h9 := HK1.out.size; have := HSZ2.out; simp at h9; show _ ≤ _; omega
            have HS2 : Hid (S + 2 ≤ w2.heap.size) := by have := HS1.out; have := HB2.out.size; show _ ≤ _; omega
            have HN2 : Hid (w2.ownsRow (B + 1) 9 1 v3 nb (strC l)) := own_below (own_keptP HIA.out.nm.2 HK1.out (fun c hc e => (HIA.out.off c hc).1 (by cases e; rfl))) HB2.out
            have HM2 : Hid (w2.ownsMap Tryz.prog 9 (unitElem (H := Unit)) (B + 2) (nb + 1) (setS (l ++ [y]))) := by
              have h1 := hown1
              rw [HD.out, ← setS_snoc] at h1
              obtain ⟨es, clock, hb, F, hs, hD⟩ := h1
              exact ⟨es, clock, by rw [HB2.out.block (B + 2) (Array.getElem?_eq_some_iff.1 hb).1]; exact hb, F, hs, hD⟩
            have HT2 : Hid (Blk w2 (S + 1) 2 (fun i => if i = 0 then .string x0 else .string x2)) := by
              have h1 := HK1.out.blk HIA.out.tx (fun e => by have := HSB.out; cases e; omega)
              exact h1.of_block (HB2.out.block _ h1.lt)
            have HB22 : Hid (Below (B + 1) W w2) := (HIA.out.bel.trans (HK1.out.to_below (by have := HSZ2.out; have := HSB.out; simp; omega) (fun c e => by cases e; omega))).trans (HB2.out.mono (by have := HS1.out; have := HSB.out; omega))
            have HVO : Hid (∀ c, v3.ownBlock = some c → c ≠ B + 2 ∧ c ≠ S + 1) := HIA.out.off
            have HLL : Hid (l.length = nb) := HIA.out.nm.1
            clear hown1 hgrow1 HK1 HIA HI HB2 hmp hhas hkey py
            have hown := HN2.out.alloc (.cells #[.string y] 9)
            have hlt9 := HN2.out.lt
            go_wp2_with (at_builtin; refine wpList_append_lies _ rfl (.tmp 41) (.tmp 44) 22 rfl (B + 1) 9 i9 (.string ⟨#[]⟩) 1 16 Tryz.underlying22 hi9 hz90 hz91 hz92 rfl (by decide) _ nb (strC l) rfl hown ⟨w2.heap.size, 0, none⟩ 1 1 [.string y] rfl rfl (news_new1 w2 (.string y) 9) (by simp [Value.oneCell']) (by decide) (by unfold maxLen; omega) (by omega) (by have := HS2.out; have := HSB.out; simp; omega) _ rfl ?_)
            intro g5 cap5 w6 hown5 hgrow5 hloc5 hg5
            have HNI6 : Hid (NI B (S + 1) x0 x2 W w6 (.slice (some ⟨g5, 0, none⟩) (nb + 1) cap5) (nb + 1) (l ++ [y])) := by
              have hk6 := grown_keptP hgrow5
              refine ⟨⟨by rw [List.length_append, HLL.out]; rfl, by rw [strC_snoc]; exact hown5⟩, ?_, ?_, ?_, ?_⟩
              · intro c hc
                have e5 : g5 = c := by simpa [Value.ownBlock] using hc
                subst e5
                rcases hloc5 with h | h
                · exact HVO.out _ h
                · have := HS2.out; have := HSB.out; omega
              · obtain ⟨es, clock, hb, F, hs, hD⟩ := HM2.out.alloc (.cells #[.string y] 9)
                exact ⟨es, clock, by rw [hk6.block (B + 2) (Array.getElem?_eq_some_iff.1 hb).1 (fun e => (HVO.out _ e).1 rfl)]; exact hb, F, hs, hD⟩
              · exact hk6.blk (HT2.out.alloc _) (fun e => (HVO.out _ e).2 rfl)
              · exact (HB22.out.alloc (by have := HS2.out; have := HSB.out; omega) _).trans (own_grown hgrow5 (fun c hc => (hlt9 c hc).1) (by have := HS2.out; have := HSB.out; simp; omega))
            have HS6 : Hid (S + 2 ≤ w6.heap.size) := by have h9 := hgrow5.size; have := HS2.out; simp at h9; show _ ≤ _; omega
            clear hown hlt9 hown5 hgrow5 hloc5 hg5
            go_wp2
            go_roundw
            case rel => exact ⟨j + 1, nb + 1, _, by go_num, rfl, by omega, by omega, by rw [HNJ.out, HYES.out]; exact HNI6, HS6⟩
            case measure => simp [intOf]; omega
        · obtain rfl : j = 2 := by omega
          have HFIN : Hid (nmj acc x0 x2 2 = nmL t (k + 1)) := by show _ = _; rw [HNX.out]; rfl
          go_wp2
          go_roundw
          case rel => exact ⟨k + 1, nb, _, by go_num, rfl, by omega, by rw [← HFIN.out]; exact HI.out.nm, fun c hc => (HI.out.off c hc).1, by rw [← HFIN.out]; exact HI.out.mp, HI.out.bel⟩
          case measure => simp [intOf]; omega
    · obtain rfl : k = n2 := by omega
      obtain ⟨ao, cc, rfl, hin⟩ := own_texts HNM.out.2 HNM.out.1
      have HIN : Hid (FlOwn 1 (B + 1) wr.heap.size wr ao na (tC (nmL t k))) := hin
      clear hin
      go_wp2
      obtain rfl : FF = Tryz.f28 := HFF.out
      go_ret
      have hb := HB.out
      exact ⟨ao, na, cc, rfl, HNM.out.1, HIN.out.wide (by omega) (Nat.le_refl _), HBW.out.trans (HBR.out.mono (by omega))⟩
end Go.Proofs.YtbepmeipjdpipaaGreat

namespace Go.Proofs.YtbepmeipjdpipaaGreat
open Go.RowKit

set_option maxHeartbeats 16000000 in
set_option maxRecDepth 100000 in
theorem implQueryOk_of (hat : ∀ (x0 x1 x2 : Tx) (w : World), x0.size ≤ 1048576 ∧ x1.size ≤ 1048576 ∧ x2.size ≤ 1048576 → Calls Tryz.prog 27 #[.agg #[.string x0, .string x1, .string x2]] w fun e w' => e = .returned (.bool (atOk (x0, x1, x2))) ∧ Hid (Below w.heap.size w w'))
    (lo hi : Nat) (e : Bool) (a b c : Option Addr) (n1 c1 n2 c2 n3 c3 : Nat) (o : List Tx) (t : List At) (f : List Fl) (w : World) (ha : QIn lo hi w a b c n1 n2 n3 (tC o) (aC t) (fC f)) (hh : hi ≤ w.heap.size) (hl : o.length = n1 ∧ t.length = n2 ∧ f.length = n3) (hz : QLe 1048576 n1 n2 n3 o t f) (hcap : n1 ≤ c1 ∧ c1 ≤ 9223372036854775807) :
    Calls Tryz.prog 8 #[qv e a n1 c1 b n2 c2 c n3 c3] w fun e' w' => e' = .returned (.bool (qOk o t f)) ∧ Hid (Below w.heap.size w w') := by
  obtain ⟨B, HB⟩ : ∃ B, Hid (B = w.heap.size) := ⟨_, rfl⟩
  obtain ⟨W, HW⟩ : ∃ W, Hid (W = w.alloc (.cells #[.bool e, .slice a n1 c1, .slice b n2 c2, .slice c n3 c3] 32)) := ⟨_, rfl⟩
  have HBW : Hid (Below w.heap.size w W) := by rw [HW.out]; exact below1 w _
  have HSW : Hid (W.heap.size = B + 1) := by rw [HW.out, HB.out]; show _ = _; simp
  have HQ : Hid (Blk W B 4 (q4 (.bool e) (.slice a n1 c1) (.slice b n2 c2) (.slice c n3 c3))) := by rw [HW.out]; exact blk_four w B HB.out _ _ _ _ _
  have HA : Hid (QIn lo hi W a b c n1 n2 n3 (tC o) (aC t) (fC f)) := ha.below HBW.out hh
  have HH : Hid (hi ≤ B) := by rw [HB.out]; exact hh
  have HL : Hid (o.length = n1 ∧ t.length = n2 ∧ f.length = n3) := hl
  have HZ : Hid (QLe 1048576 n1 n2 n3 o t f) := hz
  have HAT : Hid (∀ (x0 x1 x2 : Tx) (w : World), x0.size ≤ 1048576 ∧ x1.size ≤ 1048576 ∧ x2.size ≤ 1048576 → Calls Tryz.prog 27 #[.agg #[.string x0, .string x1, .string x2]] w fun e w' => e = .returned (.bool (atOk (x0, x1, x2))) ∧ Hid (Below w.heap.size w w')) := hat
  obtain ⟨r, HR⟩ : ∃ b : Bool, Hid (b = qOk o t f) := ⟨_, rfl⟩
  have HBAD : Hid (¬ (1 ≤ n2 ∧ n2 ≤ 4 ∧ n3 ≤ 3) → r = false) := fun h => by rw [HR.out]; exact qOk_bad (by rw [HL.out.1, HL.out.2.1, HL.out.2.2]; omega)
  rw [← HR.out]
  clear ha hh hl hz hat
  obtain ⟨hcp, hcm⟩ := hcap
  go_enter Tryz.func8, Tryz.ntmps8
  obtain ⟨FF, HFF⟩ : ∃ F : Func, Hid (F = Tryz.f8) := ⟨_, rfl⟩
  rw [← HFF.out]
  go_upto_region 1 with fail
  rw [← HB.out]
  first | rw [← HW.out] | (rw [show _ = W from HW.out.symm])
  clear HW
  obtain ⟨q0, q1, q2, q3⟩ := q_cells HQ.out
  by_cases h21 : n2 < 1
  · have hr : r = false := HBAD.out (by omega)
    subst hr
    have g1 : (n2 : Int) < 1 := by omega
    go_wp2
    obtain rfl : FF = Tryz.f8 := HFF.out
    go_ret
    exact ⟨rfl, HBW.out⟩
  have g1 : ¬ (n2 : Int) < 1 := by omega
  by_cases h24 : n2 > 4
  · have hr : r = false := HBAD.out (by omega)
    subst hr
    have g2 : (n2 : Int) > 4 := by omega
    go_wp2
    obtain rfl : FF = Tryz.f8 := HFF.out
    go_ret
    exact ⟨rfl, HBW.out⟩
  have g2 : ¬ (n2 : Int) > 4 := by omega
  by_cases h33 : n3 > 3
  · have hr : r = false := HBAD.out (by omega)
    subst hr
    have g3 : (n3 : Int) > 3 := by omega
    go_wp2
    obtain rfl : FF = Tryz.f8 := HFF.out
    go_ret
    exact ⟨rfl, HBW.out⟩
  have g3 : ¬ (n3 : Int) > 3 := by omega
  have HOKN : Hid (1 ≤ n2 ∧ n2 ≤ 4 ∧ n3 ≤ 3) := ⟨by omega, by omega, by omega⟩
  go_upto_region 3 with fail
  go_wp2
  clear HBAD q0 q1 q2 q3 g1 g2 g3
  go_loopw [27] (fun i wr => ∃ k : Nat, i = .int .i64 (k : Int) ∧ k ≤ n2 ∧ Hid (atsOk t k = true) ∧ Hid (Below (B + 1) W wr)) (fun i _ => n2 - (intOf i).toNat)
  case atStart => exact ⟨0, rfl, by omega, rfl, Below.refl _ _⟩
  case round =>
    obtain ⟨k, rfl, hk, HP, HBR⟩ := hrel
    have HSZR : Hid (B + 1 ≤ wr.heap.size) := by rw [← HSW.out]; exact HBR.out.size
    by_cases hlt : k < n2
    · have hlt1 : (k : Int) < (n2 : Int) := by omega
      have hlt0 : (0 : Int) ≤ (k : Int) := by omega
      obtain ⟨g, og, rfl, _, hgh, hc⟩ := (HA.out.2.1.below HBR.out (by have := HH.out; omega)).at hlt
      obtain ⟨x, HX⟩ : ∃ x, Hid (x = aat t k) := ⟨_, rfl⟩
      have p0 := hc 0 (by omega)
      have p1 := hc 1 (by omega)
      have p2 := hc 2 (by omega)
      have HSK : Hid (x.1.size ≤ 1048576 ∧ x.2.1.size ≤ 1048576 ∧ x.2.2.size ≤ 1048576) := by rw [HX.out]; exact HZ.out.2.2.1 k hlt
      rw [aC0, ← HX.out] at p0
      rw [aC1, ← HX.out] at p1
      rw [aC2, ← HX.out] at p2
      simp only [Nat.add_zero] at p0
      rw [← Nat.add_assoc] at p1 p2
      obtain ⟨x0, x1, x2⟩ := x
      dsimp only at p0 p1 p2
      clear hc hgh
      obtain ⟨u, HU⟩ : ∃ b : Bool, Hid (b = atOk (x0, x1, x2)) := ⟨_, rfl⟩
      have HCA : Hid (∀ w0, Calls Tryz.prog 27 #[.agg #[.string x0, .string x1, .string x2]] w0 fun e w' => e = .returned (.bool u) ∧ Hid (Below w0.heap.size w0 w')) := fun w0 => by rw [HU.out]; exact HAT.out x0 x1 x2 w0 HSK.out
      obtain ⟨W4, HW4⟩ : ∃ W4, Hid (W4 = wr.alloc (.cells #[.string x0, .string x1, .string x2] 49)) := ⟨_, rfl⟩
      obtain ⟨E, HE⟩ : ∃ E, Hid (E = wr.heap.size) := ⟨_, rfl⟩
      have HX4 : Hid (Blk W4 E 3 (fun i => if i = 0 then .string x0 else if i = 1 then .string x1 else .string x2)) := by rw [HW4.out]; exact blk_three wr E HE.out _ _ _ _
      have HB4 : Hid (Below (B + 1) W W4) := by rw [HW4.out]; exact HBR.out.trans ((below1 wr _).mono HSZR.out)
      have HS4 : Hid (B + 1 ≤ W4.heap.size) := by rw [← HSW.out]; exact HB4.out.size
      go_upto_region 6 with fail
      rw [← HE.out]
      first | rw [← HW4.out] | (rw [show _ = W4 from HW4.out.symm])
      clear HW4 p0 p1 p2
      obtain ⟨z0, z1, z2⟩ := blk_three_set HX4.out
      go_wp2_with fail
      refine (HCA.out _).mono ?_
      rintro e1 w1 ⟨rfl, HB1⟩
      have HB2 : Hid (Below (B + 1) W w1) := HB4.out.trans (HB1.out.mono HS4.out)
      clear HB1 z0 z1 z2
      rcases Bool.eq_false_or_eq_true u with h | h
      · subst h
        go_wp2
        go_roundw
        case rel => exact ⟨k + 1, by go_num, by omega, by show _ = _; rw [atsOk_succ, HP.out, ← HX.out, ← HU.out]; rfl, HB2⟩
        case measure => simp [intOf]; omega
      · subst h
        have hr : r = false := by rw [HR.out]; exact qOk_at (by rw [HL.out.2.1]; exact atsOk_no (i := k) hlt (by rw [← HX.out, ← HU.out]))
        subst hr
        go_wp2
        obtain rfl : FF = Tryz.f8 := HFF.out
        go_ret
        exact ⟨rfl, HBW.out.trans (HB2.out.mono (by have := HB.out; omega))⟩
    · obtain rfl : k = n2 := by omega
      have HATS : Hid (atsOk t t.length = true) := by rw [HL.out.2.1]; exact HP.out
      have HSM : Hid (∀ i, i < k → (aat t i).1.size ≤ 1048576 ∧ (aat t i).2.2.size ≤ 1048576) := fun i hi => ⟨(HZ.out.2.2.1 i hi).1, (HZ.out.2.2.1 i hi).2.2⟩
      obtain ⟨q0, q1, q2, q3⟩ := q_cells (HQ.out.of_block (HBR.out.block _ (by omega)))
      go_upto_region 10 with (go_at_call 28; refine (names_any lo hi e a b c n1 c1 k c2 n3 c3 o t f _ (HA.out.below HBR.out (by have := HH.out; omega)) (by have := HH.out; have := HSZR.out; omega) (by omega) HSM.out).mono ?_; rintro e1 w1 ⟨ao, nn, cc, rfl, HNN, HNM, HB1⟩)
      obtain ⟨ns, HNS⟩ : ∃ ns, Hid (ns = nmL t t.length) := ⟨_, rfl⟩
      have HNSk : Hid (nmL t k = ns) := by show _ = _; rw [HNS.out, HL.out.2.1]
      rw [HNSk.out] at HNN HNM
      have HB2 : Hid (Below (B + 1) W w1) := HBR.out.trans (HB1.out.mono HSZR.out)
      have HS1 : Hid (B + 1 ≤ w1.heap.size) := Nat.le_trans HSZR.out HB1.out.size
      have HQ1 : Hid (Blk w1 B 4 (q4 (.bool e) (.slice a n1 c1) (.slice b k c2) (.slice c n3 c3))) := HQ.out.of_block (HB2.out.block _ (by omega))
      have HA1 : Hid (QIn lo hi w1 a b c n1 k n3 (tC o) (aC t) (fC f)) := HA.out.below HB2.out (by have := HH.out; omega)
      have HNL : Hid (nn ≤ 8) := by have h1 := nmL_len t k; rw [HNSk.out, HNN.out] at h1; show nn ≤ 8; omega
      have HFI : Hid (∀ (f0 : Tx) (f1 : Int) (f2 : Tx) (f3 : Int) (w0 : World), Below w1.heap.size w1 w0 → Calls Tryz.prog 29 #[.agg #[.string f0, .int .i64 f1, .string f2, .int .i64 f3], .slice ao nn cc] w0 fun e w' => e = .returned (.bool (flOk ns (f0, f1, f2, f3))) ∧ Hid (Below w0.heap.size w0 w')) := fun f0 f1 f2 f3 w0 h => filterOk_any wr.heap.size w1.heap.size ao nn cc ns f0 f1 f2 f3 w0 (HNM.out.toIn.below h (Nat.le_refl _)) h.size HNN.out (by have := HNL.out; omega)
      have HCH : Hid (∀ (w0 : World), Below w1.heap.size w1 w0 → Calls Tryz.prog 30 #[.slice a n1 c1, .slice ao nn cc] w0 fun e w' => e = .returned (.bool (ousOk ns o n1 && decide (0 < o.length))) ∧ w0 = w') := fun w0 h => chosenOk_any lo hi a n1 c1 o wr.heap.size w1.heap.size ao nn cc ns w0 (HA1.out.1.below h (by have := HH.out; have := HS1.out; omega)) HL.out.1 (by have := HZ.out.1.1; omega) ⟨hcp, hcm⟩ (HNM.out.toIn.below h (Nat.le_refl _)) HNN.out (by have := HNL.out; omega)
      clear HB1 q0 q1 q2 q3 HNM HA HQ HP HNSk
      obtain ⟨q0, q1, q2, q3⟩ := q_cells HQ1.out
      go_wp2
      clear q0 q1 q2 q3
      go_loopw [40] (fun i wr => ∃ m : Nat, i = .int .i64 (m : Int) ∧ m ≤ n3 ∧ Hid (flsOk ns f m = true) ∧ Hid (Below w1.heap.size w1 wr)) (fun i _ => n3 - (intOf i).toNat)
      case atStart => exact ⟨0, rfl, by omega, rfl, Below.refl _ _⟩
      case round =>
        obtain ⟨m, rfl, hm, HPF, HBF⟩ := hrel
        by_cases hlm : m < n3
        · have hlm1 : (m : Int) < (n3 : Int) := by omega
          have hlm0 : (0 : Int) ≤ (m : Int) := by omega
          obtain ⟨g, og, rfl, _, hgh, hc⟩ := (HA1.out.2.2.below HBF.out (by have := HH.out; have := HS1.out; omega)).at hlm
          obtain ⟨x, HX⟩ : ∃ x, Hid (x = fat f m) := ⟨_, rfl⟩
          have p0 := hc 0 (by omega)
          have p1 := hc 1 (by omega)
          have p2 := hc 2 (by omega)
          have p3 := hc 3 (by omega)
          rw [fC0, ← HX.out] at p0
          rw [fC1, ← HX.out] at p1
          rw [fC2, ← HX.out] at p2
          rw [fC3, ← HX.out] at p3
          simp only [Nat.add_zero] at p0
          rw [← Nat.add_assoc] at p1 p2 p3
          obtain ⟨f0, f1, f2, f3⟩ := x
          dsimp only at p0 p1 p2 p3
          clear hc hgh
          obtain ⟨W4, HW4⟩ : ∃ W4, Hid (W4 = wr.alloc (.cells #[.string f0, .int .i64 f1, .string f2, .int .i64 f3] 53)) := ⟨_, rfl⟩
          obtain ⟨E, HE⟩ : ∃ E, Hid (E = wr.heap.size) := ⟨_, rfl⟩
          have HX4 : Hid (Blk W4 E 4 (q4 (.string f0) (.int .i64 f1) (.string f2) (.int .i64 f3))) := by rw [HW4.out]; exact blk_four wr E HE.out _ _ _ _ _
          have HB4 : Hid (Below w1.heap.size w1 W4) := by rw [HW4.out]; exact HBF.out.trans ((below1 wr _).mono HBF.out.size)
          go_upto_region 13 with fail
          rw [← HE.out]
          first | rw [← HW4.out] | (rw [show _ = W4 from HW4.out.symm])
          clear HW4 p0 p1 p2 p3
          obtain ⟨z0, z1, z2, z3⟩ := q_cells HX4.out
          obtain ⟨u, HU⟩ : ∃ b : Bool, Hid (b = flOk ns (f0, f1, f2, f3)) := ⟨_, rfl⟩
          have HCF : Hid (Calls Tryz.prog 29 #[.agg #[.string f0, .int .i64 f1, .string f2, .int .i64 f3], .slice ao nn cc] W4 fun e w' => e = .returned (.bool u) ∧ Hid (Below W4.heap.size W4 w')) := by rw [HU.out]; exact HFI.out f0 f1 f2 f3 W4 HB4.out
          have HNO : Hid (u = false → r = false) := fun h => by rw [HR.out]; exact qOk_fl (by rw [← HNS.out, HL.out.2.2]; exact flsOk_no (i := m) hlm (by rw [← HX.out, ← HU.out]; exact h))
          have HYES : Hid (u = true → flsOk ns f (m + 1) = true) := fun h => by rw [flsOk_succ, HPF.out, ← HX.out, ← HU.out, h]; rfl
          clear HX HX4 HPF HU
          go_wp2_with fail
          refine HCF.out.mono ?_
          rintro e1 w4 ⟨rfl, HB5⟩
          have HB6 : Hid (Below w1.heap.size w1 w4) := HB4.out.trans (HB5.out.mono HB4.out.size)
          clear HB5 HCF z0 z1 z2 z3
          rcases Bool.eq_false_or_eq_true u with h | h
          · subst h
            go_wp2
            go_roundw
            case rel => exact ⟨m + 1, by go_num, by omega, HYES.out (by first | rfl | trivial), HB6⟩
            case measure => simp [intOf]; omega
          · subst h
            have hr : r = false := HNO.out rfl
            subst hr
            have HBE : Hid (Below w.heap.size w w4) := HBW.out.trans ((HB2.out.trans (HB6.out.mono HS1.out)).mono (by have := HB.out; omega))
            go_wp2
            obtain rfl : FF = Tryz.f8 := HFF.out
            go_ret
            exact ⟨rfl, HBE.out⟩
        · obtain rfl : m = n3 := by omega
          obtain ⟨u, HU⟩ : ∃ b : Bool, Hid (b = (ousOk ns o n1 && decide (0 < o.length))) := ⟨_, rfl⟩
          have HCC : Hid (Calls Tryz.prog 30 #[.slice a n1 c1, .slice ao nn cc] wr fun e w' => e = .returned (.bool u) ∧ wr = w') := by rw [HU.out]; exact HCH.out wr HBF.out
          have HRQ : Hid (r = (decide (nn ≤ 4) && u)) := by
            show _ = _
            rw [HR.out, qOk_impl (by rw [HL.out.2.1, HL.out.2.2]; exact HOKN.out) HATS.out (by rw [← HNS.out, HL.out.2.2]; exact HPF.out), ← HNS.out, HNN.out, HU.out, HL.out.1]
          have HBE : Hid (Below w.heap.size w wr) := HBW.out.trans ((HB2.out.trans (HBF.out.mono HS1.out)).mono (by have := HB.out; omega))
          obtain ⟨q0, q1, q2, q3⟩ := q_cells (HQ1.out.of_block (HBF.out.block _ HQ1.out.lt))
          by_cases h4 : nn ≤ 4
          · have hr : r = u := by rw [HRQ.out, decide_eq_true h4]; rfl
            subst hr
            have g4 : (nn : Int) ≤ 4 := by omega
            go_wp2_with fail
            refine HCC.out.mono ?_
            rintro e1 w6 ⟨rfl, rfl⟩
            go_wp2
            obtain rfl : FF = Tryz.f8 := HFF.out
            go_ret
            exact ⟨rfl, HBE.out⟩
          · have hr : r = false := by rw [HRQ.out, decide_eq_false h4]; rfl
            subst hr
            have g4 : ¬ (nn : Int) ≤ 4 := by omega
            go_wp2
            obtain rfl : FF = Tryz.f8 := HFF.out
            go_ret
            exact ⟨rfl, HBE.out⟩
end Go.Proofs.YtbepmeipjdpipaaGreat

namespace Go.Proofs.YtbepmeipjdpipaaGreat
open Go.RowKit

theorem specQueryOk_any (lo hi : Nat) (e : Bool) (a b c : Option Addr) (n1 c1 n2 c2 n3 c3 : Nat) (o : List Tx) (t : List At) (f : List Fl) (r : Bool) (w : World) (ha : QIn lo hi w a b c n1 n2 n3 (tC o) (aC t) (fC f)) (hh : hi ≤ w.heap.size) (hl : o.length = n1 ∧ t.length = n2 ∧ f.length = n3) (hz : QLe 1048576 n1 n2 n3 o t f) (hcap : n1 ≤ c1 ∧ c1 ≤ 9223372036854775807) (hr : r = qOk o t f) :
    Calls Tryz.prog 6 #[qv e a n1 c1 b n2 c2 c n3 c3] w fun e' w' => e' = .returned (.bool r) ∧ Hid (Below w.heap.size w w') := by
  rw [hr]; exact specQueryOk_of specAtom_any lo hi e a b c n1 c1 n2 c2 n3 c3 o t f w ha hh hl hz hcap
theorem implQueryOk_any (lo hi : Nat) (e : Bool) (a b c : Option Addr) (n1 c1 n2 c2 n3 c3 : Nat) (o : List Tx) (t : List At) (f : List Fl) (r : Bool) (w : World) (ha : QIn lo hi w a b c n1 n2 n3 (tC o) (aC t) (fC f)) (hh : hi ≤ w.heap.size) (hl : o.length = n1 ∧ t.length = n2 ∧ f.length = n3) (hz : QLe 1048576 n1 n2 n3 o t f) (hcap : n1 ≤ c1 ∧ c1 ≤ 9223372036854775807) (hr : r = qOk o t f) :
    Calls Tryz.prog 8 #[qv e a n1 c1 b n2 c2 c n3 c3] w fun e' w' => e' = .returned (.bool r) ∧ Hid (Below w.heap.size w w') := by
  rw [hr]; exact implQueryOk_of implAtom_any lo hi e a b c n1 c1 n2 c2 n3 c3 o t f w ha hh hl hz hcap
end Go.Proofs.YtbepmeipjdpipaaGreat

namespace Go.Proofs.YtbepmeipjdpipaaGreat
open Go.RowKit

open Go.ChangeShapes Go.WideShapes Go.ChangeAt Go.Deep in
theorem trod_struct4 {H : Type} {enc : TypeId × Value → H} {P : Program} {w : World} {base : Nat} {spare : Nat → Bool} {held : Bool} {t : TypeId} {f0 f1 f2 f3 : Field} {fuel : Nat} {cs : List Value} {x : DataW H × List MemPlace} (ht : P.underlying t = some (.struct #[f0, f1, f2, f3])) (h : DataW.trod enc P w base spare held fuel t cs = some x) :
    ∃ y0 y1 y2 y3 n, cs.length = P.cellsOf t ∧ DataW.trod enc P w base spare held n f0.type ((cs.drop f0.offset).take (P.cellsOf f0.type)) = some y0 ∧
      DataW.trod enc P w base spare held n f1.type ((cs.drop f1.offset).take (P.cellsOf f1.type)) = some y1 ∧ DataW.trod enc P w base spare held n f2.type ((cs.drop f2.offset).take (P.cellsOf f2.type)) = some y2 ∧ DataW.trod enc P w base spare held n f3.type ((cs.drop f3.offset).take (P.cellsOf f3.type)) = some y3 := by
  obtain ⟨xs, n, _, rfl, hl, hlen, hf⟩ := DataW.trod_struct ht h
  match xs, hlen with
  | [y0, y1, y2, y3], _ => exact ⟨y0, y1, y2, y3, n, hl, by simpa using hf 0 f0 rfl, by simpa using hf 1 f1 rfl, by simpa using hf 2 f2 rfl, by simpa using hf 3 f3 rfl⟩

open Go.ChangeShapes Go.WideShapes Go.ChangeAt Go.Deep in
set_option maxRecDepth 100000 in
theorem texts_trod {H : Type} {enc : TypeId × Value → H} {W : World} {fuel : Nat} {v : Value} {x : DataW H × List MemPlace}
    (hf : DataW.trod enc Tryz.prog W 0 (fun _ => true) true fuel 22 [v] = some x) : ∃ (ao : Option Addr) (n cap : Nat) (l : List Tx), v = .slice ao n cap ∧ n ≤ maxLen ∧ l.length = n ∧ (∀ i, i < n → (tat l i).size ≤ maxLen) ∧ FlIn 1 0 W.heap.size W ao n (tC l) := by
  rcases open_strs Tryz.underlying22 Tryz.underlying9 (by kernel_rfl) hf with ⟨hcs, _⟩ | ⟨a, len, cap, m, Sx, hcs, _, hl, hm, hmm, _, hx⟩
  · simp at hcs
    subst hcs
    exact ⟨none, 0, 0, [], rfl, Nat.zero_le _, rfl, fun i hi => absurd hi (Nat.not_lt_zero _), .inl rfl⟩
  · simp at hcs
    subst hcs
    have hlm : len ≤ m := by rw [hmm]; simp; exact hl
    have hgd : ∀ i, i < len → tat ((List.range len).map Sx) i = Sx i := fun i hi => by simp [tat, List.getD, hi]
    refine ⟨some a, len, cap, (List.range len).map Sx, rfl, by omega, by simp, fun i hi => by rw [hgd i hi]; exact (hx i (by omega)).2, ?_⟩
    by_cases h0 : len = 0
    · exact .inl h0
    · obtain ⟨b, off, spot⟩ := a
      have c0 := (hx 0 (by omega)).1
      obtain rfl := spot_none c0
      rw [add_none] at c0
      refine .inr ⟨b, off, rfl, Nat.zero_le _, lt_of_cell c0, fun j hj => ?_⟩
      have ck := (hx j (by omega)).1
      rw [add_none] at ck
      rw [ck]
      unfold tC
      rw [hgd j (by omega)]

open Go.ChangeShapes Go.WideShapes Go.ChangeAt Go.Deep in
set_option maxRecDepth 100000 in
theorem atoms_trod {H : Type} {enc : TypeId × Value → H} {W : World} {fuel : Nat} {v : Value} {x : DataW H × List MemPlace}
    (hf : DataW.trod enc Tryz.prog W 0 (fun _ => true) true fuel 23 [v] = some x) : ∃ (ao : Option Addr) (n cap : Nat) (l : List At), v = .slice ao n cap ∧ n ≤ maxLen ∧ l.length = n ∧ (∀ i, i < n → (aat l i).1.size ≤ maxLen ∧ (aat l i).2.1.size ≤ maxLen ∧ (aat l i).2.2.size ≤ maxLen) ∧ FlIn 3 0 W.heap.size W ao n (aC l) := by
  rcases open_slice Tryz.underlying23 hf with ⟨hcs, _⟩ | ⟨a, len, cap, m, n, D, Pl, hcs, _, hl, hm, hmm, _, hx⟩
  · simp at hcs
    subst hcs
    exact ⟨none, 0, 0, [], rfl, Nat.zero_le _, rfl, fun i hi => absurd hi (Nat.not_lt_zero _), .inl rfl⟩
  · simp at hcs
    subst hcs
    have ce : Tryz.prog.cellsOf 68 = 3 := by kernel_rfl
    have hlm : len ≤ m := by rw [hmm]; simp; exact hl
    have each : ∀ i, i < len → ∃ q : At, W.cell? (a.add (i * 3)) = some (.string q.1) ∧ W.cell? (a.add (i * 3 + 1)) = some (.string q.2.1) ∧ W.cell? (a.add (i * 3 + 2)) = some (.string q.2.2) ∧ (q.1.size ≤ maxLen ∧ q.2.1.size ≤ maxLen ∧ q.2.2.size ≤ maxLen) := by
      intro i hi
      obtain ⟨cs', h1, h2⟩ := hx i (by omega)
      rw [ce] at h1
      obtain ⟨_, hlen, hcell⟩ := World.cells?_some h1
      obtain ⟨y0, y1, y2, k, _, _, g0, g1, g2⟩ := trod_struct3 Tryz.underlying68 h2
      match cs', hlen with
      | [v0, v1, v2], _ =>
        have c9 : Tryz.prog.cellsOf 9 = 1 := by kernel_rfl
        simp only [c9, List.drop_zero, List.drop_succ_cons, List.take_succ_cons, List.take_zero] at g0 g1 g2
        obtain ⟨z0, e0, _, s0⟩ := DataW.trod_string Tryz.underlying9 g0
        obtain ⟨z1, e1, _, s1⟩ := DataW.trod_string Tryz.underlying9 g1
        obtain ⟨z2, e2, _, s2⟩ := DataW.trod_string Tryz.underlying9 g2
        simp at e0 e1 e2
        have q0 := hcell 0 (by omega)
        have q1 := hcell 1 (by omega)
        have q2 := hcell 2 (by omega)
        rw [add_add] at q0 q1 q2
        subst e0 e1 e2
        exact ⟨(z0, z1, z2), by simpa using q0, by simpa using q1, by simpa using q2, s0, s1, s2⟩
    obtain ⟨f, hfn⟩ := choose_lt each
    have hgd : ∀ i, i < len → aat ((List.range len).map f) i = f i := fun i hi => by simp [aat, List.getD, hi]
    refine ⟨some a, len, cap, (List.range len).map f, rfl, by omega, by simp, fun i hi => by rw [hgd i hi]; exact (hfn i hi).2.2.2, ?_⟩
    by_cases h0 : len = 0
    · exact .inl h0
    · obtain ⟨b, off, spot⟩ := a
      have c0 := (hfn 0 (by omega)).1
      obtain rfl := spot_none (by simpa using c0)
      rw [add_none] at c0
      refine .inr ⟨b, off, rfl, Nat.zero_le _, lt_of_cell c0, fun j hj => ?_⟩
      obtain ⟨c0, c1, c2, _⟩ := hfn (j / 3) (by omega)
      rw [add_none] at c0 c1 c2
      unfold aC
      rw [hgd (j / 3) (by omega)]
      rcases (show j = j / 3 * 3 ∨ j = j / 3 * 3 + 1 ∨ j = j / 3 * 3 + 2 by omega) with h | h | h
      · rw [if_pos (by omega), ← c0, ← h]
      · rw [if_neg (by omega), if_pos (by omega), ← c1, ← h]
      · rw [if_neg (by omega), if_neg (by omega), ← c2, ← h]

open Go.ChangeShapes Go.WideShapes Go.ChangeAt Go.Deep in
set_option maxRecDepth 100000 in
theorem filters_trod {H : Type} {enc : TypeId × Value → H} {W : World} {fuel : Nat} {v : Value} {x : DataW H × List MemPlace}
    (hf : DataW.trod enc Tryz.prog W 0 (fun _ => true) true fuel 24 [v] = some x) : ∃ (ao : Option Addr) (n cap : Nat) (l : List Fl), v = .slice ao n cap ∧ n ≤ maxLen ∧ l.length = n ∧ (∀ i, i < n → (fat l i).1.size ≤ maxLen ∧ (fat l i).2.2.1.size ≤ maxLen) ∧ FlIn 4 0 W.heap.size W ao n (fC l) := by
  rcases open_slice Tryz.underlying24 hf with ⟨hcs, _⟩ | ⟨a, len, cap, m, n, D, Pl, hcs, _, hl, hm, hmm, _, hx⟩
  · simp at hcs
    subst hcs
    exact ⟨none, 0, 0, [], rfl, Nat.zero_le _, rfl, fun i hi => absurd hi (Nat.not_lt_zero _), .inl rfl⟩
  · simp at hcs
    subst hcs
    have ce : Tryz.prog.cellsOf 70 = 4 := by kernel_rfl
    have hlm : len ≤ m := by rw [hmm]; simp; exact hl
    have each : ∀ i, i < len → ∃ q : Fl, W.cell? (a.add (i * 4)) = some (.string q.1) ∧ W.cell? (a.add (i * 4 + 1)) = some (.int .i64 q.2.1) ∧ W.cell? (a.add (i * 4 + 2)) = some (.string q.2.2.1) ∧ W.cell? (a.add (i * 4 + 3)) = some (.int .i64 q.2.2.2) ∧ (q.1.size ≤ maxLen ∧ q.2.2.1.size ≤ maxLen) := by
      intro i hi
      obtain ⟨cs', h1, h2⟩ := hx i (by omega)
      rw [ce] at h1
      obtain ⟨_, hlen, hcell⟩ := World.cells?_some h1
      obtain ⟨y0, y1, y2, y3, k, _, g0, g1, g2, g3⟩ := trod_struct4 Tryz.underlying70 h2
      match cs', hlen with
      | [v0, v1, v2, v3], _ =>
        have c9 : Tryz.prog.cellsOf 9 = 1 := by kernel_rfl
        have c3 : Tryz.prog.cellsOf 3 = 1 := by kernel_rfl
        simp only [c9, c3, List.drop_zero, List.drop_succ_cons, List.take_succ_cons, List.take_zero] at g0 g1 g2 g3
        obtain ⟨z0, e0, _, s0⟩ := DataW.trod_string Tryz.underlying9 g0
        obtain ⟨z1, e1, _, _⟩ := DataW.trod_int Tryz.underlying3 g1
        obtain ⟨z2, e2, _, s2⟩ := DataW.trod_string Tryz.underlying9 g2
        obtain ⟨z3, e3, _, _⟩ := DataW.trod_int Tryz.underlying3 g3
        simp at e0 e1 e2 e3
        have q0 := hcell 0 (by omega)
        have q1 := hcell 1 (by omega)
        have q2 := hcell 2 (by omega)
        have q3 := hcell 3 (by omega)
        rw [add_add] at q0 q1 q2 q3
        subst e0 e1 e2 e3
        exact ⟨(z0, z1, z2, z3), by simpa using q0, by simpa using q1, by simpa using q2, by simpa using q3, s0, s2⟩
    obtain ⟨f, hfn⟩ := choose_lt each
    have hgd : ∀ i, i < len → fat ((List.range len).map f) i = f i := fun i hi => by simp [fat, List.getD, hi]
    refine ⟨some a, len, cap, (List.range len).map f, rfl, by omega, by simp, fun i hi => by rw [hgd i hi]; exact (hfn i hi).2.2.2.2, ?_⟩
    by_cases h0 : len = 0
    · exact .inl h0
    · obtain ⟨b, off, spot⟩ := a
      have c0 := (hfn 0 (by omega)).1
      obtain rfl := spot_none (by simpa using c0)
      rw [add_none] at c0
      refine .inr ⟨b, off, rfl, Nat.zero_le _, lt_of_cell c0, fun j hj => ?_⟩
      obtain ⟨c0, c1, c2, c3, _⟩ := hfn (j / 4) (by omega)
      rw [add_none] at c0 c1 c2 c3
      unfold fC
      rw [hgd (j / 4) (by omega)]
      rcases (show j = j / 4 * 4 ∨ j = j / 4 * 4 + 1 ∨ j = j / 4 * 4 + 2 ∨ j = j / 4 * 4 + 3 by omega) with h | h | h | h
      · rw [if_pos (by omega), ← c0, ← h]
      · rw [if_neg (by omega), if_pos (by omega), ← c1, ← h]
      · rw [if_neg (by omega), if_neg (by omega), if_pos (by omega), ← c2, ← h]
      · rw [if_neg (by omega), if_neg (by omega), if_neg (by omega), ← c3, ← h]

theorem cellsQ : Tryz.prog.cellsOf 26 = 4 := by kernel_rfl
open Go.ChangeShapes Go.WideShapes Go.ChangeAt Go.Deep in
set_option maxRecDepth 100000 in
theorem query_in {H : Type} {enc : TypeId × Value → H} {W : World} {r : Reach} {b0 : Nat} {v : Value} {d : DataW H} {ps : List MemPlace} (hv : Value.okWide Tryz.prog W r b0 26 v)
    (h : DataW.Trod enc Tryz.prog W 0 (fun _ => true) true 26 v d ps) : ∃ (e : Bool) (a : Option Addr) (n x : Nat) (b : Option Addr) (m y : Nat) (c : Option Addr) (k z : Nat) (o : List Tx) (t : List At) (f : List Fl), v = qv e a n x b m y c k z ∧ (o.length = n ∧ t.length = m ∧ f.length = k) ∧ QLe maxLen n m k o t f ∧ QIn 0 W.heap.size W a b c n m k (tC o) (aC t) (fC f) := by
  obtain ⟨cs, rfl, hsz⟩ := okWide_struct Tryz.underlying26 hv
  have h1 : cs.size = 4 := hsz.trans cellsQ
  obtain ⟨v0, v1, v2, v3, rfl⟩ : ∃ v0 v1 v2 v3, cs = #[v0, v1, v2, v3] := by
    refine ⟨cs[0], cs[1], cs[2], cs[3], ?_⟩
    apply Array.ext (by simpa using h1)
    intro i hi hi'
    simp at hi'
    rcases (show i = 0 ∨ i = 1 ∨ i = 2 ∨ i = 3 by omega) with rfl | rfl | rfl | rfl <;> rfl
  obtain ⟨fuel, hf⟩ := h
  obtain ⟨y0, y1, y2, y3, n, _, g0, g1, g2, g3⟩ := trod_struct4 Tryz.underlying26 hf
  have c4 : Tryz.prog.cellsOf 4 = 1 := by kernel_rfl
  have k1 : Tryz.prog.cellsOf 22 = 1 := by kernel_rfl
  have k2 : Tryz.prog.cellsOf 23 = 1 := by kernel_rfl
  have k3 : Tryz.prog.cellsOf 24 = 1 := by kernel_rfl
  have h0' : DataW.trod enc Tryz.prog W 0 (fun _ => true) true n 4 [v0] = some y0 := by simpa [Value.cells, c4] using g0
  have h1' : DataW.trod enc Tryz.prog W 0 (fun _ => true) true n 22 [v1] = some y1 := by simpa [Value.cells, k1] using g1
  have h2' : DataW.trod enc Tryz.prog W 0 (fun _ => true) true n 23 [v2] = some y2 := by simpa [Value.cells, k2] using g2
  have h3' : DataW.trod enc Tryz.prog W 0 (fun _ => true) true n 24 [v3] = some y3 := by simpa [Value.cells, k3] using g3
  obtain ⟨e, ee, _⟩ := DataW.trod_bool Tryz.underlying4 h0'
  simp at ee
  obtain ⟨a1, n1, c1, l1, rfl, hm1, hl1, hs1, hr1⟩ := texts_trod h1'
  obtain ⟨a2, n2, c2, l2, rfl, hm2, hl2, hs2, hr2⟩ := atoms_trod h2'
  obtain ⟨a3, n3, c3, l3, rfl, hm3, hl3, hs3, hr3⟩ := filters_trod h3'
  subst ee
  exact ⟨e, a1, n1, c1, a2, n2, c2, a3, n3, c3, l1, l2, l3, rfl, ⟨hl1, hl2, hl3⟩, ⟨⟨hm1, hm2, hm3⟩, hs1, hs2, hs3⟩, hr1, hr2, hr3⟩
end Go.Proofs.YtbepmeipjdpipaaGreat
