/-
  Which names a question has: spec.l08In, spec.NamesOf, impl.NamesOf.
-/
import Derived.Test.YtkcflhlipdnbnaaQyT
import Derived.Maps.OwnSet
import Derived.Maps.OwnOps
import Derived.Deep.AppendLies
namespace Go.Proofs.Ytkcflhlipdnbnaa
open Go.RowKit Go.Maps

/-- whether a text is on a list -/
def inL (x : Tx) (l : List Tx) : Bool := l.any fun y => decide (y = x)
theorem inL_iff {x : Tx} {l : List Tx} : inL x l = true ↔ x ∈ l := by simp [inL]
/-- a name more, if it is not there -/
def addN (acc : List Tx) (x : Tx) : List Tx := if inL x acc = true then acc else acc ++ [x]
/-- the names of the first k atoms -/
def nmL (t : List At) : Nat → List Tx
  | 0 => []
  | k + 1 => addN (addN (nmL t k) (aat t k).1) (aat t k).2.2
theorem addN_len (acc : List Tx) (x : Tx) : (addN acc x).length ≤ acc.length + 1 := by unfold addN; split <;> simp
theorem nmL_len (t : List At) : ∀ k, (nmL t k).length ≤ 2 * k
  | 0 => by simp [nmL]
  | k + 1 => by
    have h1 := nmL_len t k
    have h2 := addN_len (nmL t k) (aat t k).1
    have h3 := addN_len (addN (nmL t k) (aat t k).1) (aat t k).2.2
    show (addN (addN (nmL t k) (aat t k).1) (aat t k).2.2).length ≤ _
    omega
theorem addN_no {acc : List Tx} {x : Tx} (h : inL x acc = true) : addN acc x = acc := by unfold addN; rw [if_pos h]
theorem addN_yes {acc : List Tx} {x : Tx} (h : inL x acc = false) : addN acc x = acc ++ [x] := by unfold addN; rw [if_neg (by rw [h]; exact Bool.false_ne_true)]
theorem mem_upto (l : List Tx) (x : Tx) : x ∈ l ↔ ∃ i, i < l.length ∧ tat l i = x := by
  constructor
  · intro h
    obtain ⟨i, hi, e⟩ := List.getElem_of_mem h
    exact ⟨i, hi, by rw [tat_get hi, e]⟩
  · rintro ⟨i, hi, e⟩
    rw [← e, tat_get hi]
    exact List.getElem_mem hi

set_option maxHeartbeats 2000000 in
theorem l08In_any (lo hi : Nat) (a : Option Addr) (n cap : Nat) (l : List Tx) (x : Tx) (r : Bool) (w : World) (ha : FlIn 1 lo hi w a n (tC l)) (hn : l.length = n) (hm : n ≤ 9223372036854775807) (hr : r = inL x l) :
    Calls Try.prog 56 #[.slice a n cap, .string x] w fun e w' => e = .returned (.bool r) ∧ w = w' := by
  have HN : Hid (l.length = n) := hn
  have HA : Hid (FlIn 1 lo hi w a n (tC l)) := ha
  have HR : Hid (r = inL x l) := hr
  clear ha hn hr
  go_enter Try.func56, Try.ntmps56
  go_wp2
  go_loop [5] (fun i => ∃ k : Nat, i = .int .i64 k ∧ k ≤ n ∧ Hid (∀ j, j < k → tat l j ≠ x)) (fun i => n - (intOf i).toNat)
  case atStart => exact ⟨0, rfl, by omega, fun j hj => absurd hj (by omega)⟩
  case round =>
    obtain ⟨k, rfl, hk, HP⟩ := hrel
    by_cases hlt : k < n
    · have hlt1 : (k : Int) < (n : Int) := by omega
      have hlt0 : (0 : Int) ≤ (k : Int) := by omega
      obtain ⟨b, o, rfl, _, _, hc⟩ := HA.out.at hlt
      obtain ⟨y, HY⟩ : ∃ y, Hid (y = tat l k) := ⟨_, rfl⟩
      have p0 := hc 0 (by omega)
      rw [tC0, ← HY.out, Nat.mul_one, Nat.add_zero] at p0
      clear hc
      by_cases hxy : y = x
      · have hne : (y.toList == x.toList) = true := by rw [toList_eq]; exact decide_eq_true hxy
        have hf : r = true := by rw [HR.out]; exact inL_iff.2 ((mem_upto l x).2 ⟨k, by rw [HN.out]; exact hlt, by rw [← HY.out, hxy]⟩)
        have HXY : Hid (y = x) := hxy
        clear hxy
        subst hf
        go_wp2
        go_ret
        exact ⟨rfl, rfl⟩
      · have hne : (y.toList == x.toList) = false := by rw [toList_eq]; exact decide_eq_false hxy
        have HXY : Hid (¬ y = x) := hxy
        clear hxy
        go_wp2
        go_roundw
        case rel => exact ⟨k + 1, by go_num, by omega, fun j hj => by
          by_cases e : j = k
          · subst e; rw [← HY.out]; exact HXY.out
          · exact HP.out j (by omega)⟩
        case measure => simp [intOf]; omega
    · obtain rfl : k = n := by omega
      have hf : r = false := by
        rw [HR.out]
        refine Bool.eq_false_iff.2 fun h => ?_
        obtain ⟨i, hi, e⟩ := (mem_upto l x).1 (inL_iff.1 h)
        exact HP.out i (by rw [← HN.out]; exact hi) e
      subst hf
      go_wp2
      go_ret
      exact ⟨rfl, rfl⟩

/-- a row of names that is owned and may grow -/
def NamesAt (base : Nat) (w : World) (v : Value) (n : Nat) (l : List Tx) : Prop := l.length = n ∧ w.ownsRow base 9 1 v n (strC l)
theorem NamesAt.below {base n : Nat} {w w' : World} {v : Value} {l : List Tx} (h : NamesAt base w v n l) (hb : Below w.heap.size w w') : NamesAt base w' v n l := ⟨h.1, own_below h.2 hb⟩
theorem l08In_names (base : Nat) (v : Value) (n : Nat) (l : List Tx) (x : Tx) (r : Bool) (w : World) (h : NamesAt base w v n l) (hm : n ≤ 9223372036854775807) (hr : r = inL x l) :
    Calls Try.prog 56 #[v, .string x] w fun e w' => e = .returned (.bool r) ∧ w = w' := by
  obtain ⟨ao, c, rfl, h1⟩ := own_texts h.2 h.1
  exact l08In_any base w.heap.size ao n c l x r w h1.toIn h.1 hm hr

set_option maxHeartbeats 8000000 in
set_option maxRecDepth 100000 in
theorem specNames_any (lo hi : Nat) (e : Bool) (a b c : Option Addr) (n1 c1 n2 c2 n3 c3 : Nat) (o : List Tx) (t : List At) (f : List Fl) (w : World) (ha : QIn lo hi w a b c n1 n2 n3 (tC o) (aC t) (fC f)) (hh : hi ≤ w.heap.size) (hz : n2 ≤ 1048576) :
    Calls Try.prog 20 #[qv e a n1 c1 b n2 c2 c n3 c3] w fun e w' => ∃ ao nn cc, e = .returned (.slice ao nn cc) ∧ Hid ((nmL t n2).length = nn) ∧ Hid (FlOwn 1 w.heap.size w'.heap.size w' ao nn (tC (nmL t n2))) ∧ Hid (Below w.heap.size w w') := by
  obtain ⟨i9, hi9, hz90, hz91, hz92⟩ := info_parts info9s
  obtain ⟨B, HB⟩ : ∃ B, Hid (B = w.heap.size) := ⟨_, rfl⟩
  obtain ⟨W, HW⟩ : ∃ W, Hid (W = (w.alloc (.cells #[.bool e, .slice a n1 c1, .slice b n2 c2, .slice c n3 c3] 52)).alloc (.cells #[] 9)) := ⟨_, rfl⟩
  have HBW : Hid (Below w.heap.size w W) := by rw [HW.out]; exact below2 w _ _
  have HSW : Hid (W.heap.size = B + 2) := by rw [HW.out, HB.out]; show _ = _; simp
  have HQ : Hid (Blk W B 4 (q4 (.bool e) (.slice a n1 c1) (.slice b n2 c2) (.slice c n3 c3))) := by rw [HW.out]; exact (blk_four w B HB.out _ _ _ _ _).alloc _
  have HO : Hid (NamesAt (B + 1) W (.slice (some ⟨B + 1, 0, none⟩) 0 0) 0 []) := by
    have h := World.ownsRow_made (w.alloc (.cells #[.bool e, .slice a n1 c1, .slice b n2 c2, .slice c n3 c3] 52)) (base := B + 1) (e := 9) (size := 1) #[] 0 (by rw [HB.out]; simp) (Nat.zero_le _) rfl
    rw [← HW.out] at h
    have e : (w.alloc (.cells #[.bool e, .slice a n1 c1, .slice b n2 c2, .slice c n3 c3] 52)).heap.size = B + 1 := by rw [HB.out]; simp
    rw [e] at h
    exact ⟨rfl, h⟩
  have HA : Hid (FlIn 3 lo hi W b n2 (aC t)) := ha.2.1.below HBW.out hh
  have HH : Hid (hi ≤ B) := by rw [HB.out]; exact hh
  clear ha hh
  go_enter Try.func20, Try.ntmps20
  obtain ⟨FF, HFF⟩ : ∃ F : Func, Hid (F = Try.f20) := ⟨_, rfl⟩
  rw [← HFF.out]
  go_upto_region 2 with fail
  rw [← HB.out]
  first | rw [← HW.out] | (rw [show _ = W from HW.out.symm])
  clear HW
  go_wp2
  go_loopw [4, 3] (fun i v wr => ∃ (k nn : Nat) (v3 : Value), i = .int .i64 (k : Int) ∧ v3 = v ∧ k ≤ n2 ∧ Hid (NamesAt (B + 1) wr v3 nn (nmL t k)) ∧ Hid (Below (B + 1) W wr)) (fun i _ _ => n2 - (intOf i).toNat)
  case atStart => exact ⟨0, 0, _, rfl, rfl, by omega, HO, Below.refl _ _⟩
  case round =>
    obtain ⟨k, na, v3, rfl, rfl, hk, HNM, HBR⟩ := hrel
    have HSR : Hid (B + 2 ≤ wr.heap.size) := by rw [← HSW.out]; exact HBR.out.size
    obtain ⟨q0, q1, q2, q3⟩ := q_cells (HQ.out.of_block (HBR.out.block _ (by omega)))
    by_cases hlt : k < n2
    · have hlt1 : (k : Int) < (n2 : Int) := by omega
      have hlt0 : (0 : Int) ≤ (k : Int) := by omega
      obtain ⟨g, og, rfl, _, hgh, hc⟩ := (HA.out.below HBR.out (by have := HH.out; omega)).at hlt
      have HGB : Hid (g < B + 1) := by have := HH.out; show _ < _; omega
      obtain ⟨x, HX⟩ : ∃ x, Hid (x = aat t k) := ⟨_, rfl⟩
      have p0 := hc 0 (by omega)
      have p2 := hc 2 (by omega)
      rw [aC0, ← HX.out] at p0
      rw [aC2, ← HX.out] at p2
      simp only [Nat.add_zero] at p0
      rw [← Nat.add_assoc] at p2
      obtain ⟨x0, x1, x2⟩ := x
      dsimp only at p0 p2
      have HP2 : Hid (wr.cell? ⟨g, og + k * 3 + 2, none⟩ = some (.string x2)) := p2
      clear hc hgh
      obtain ⟨acc, HACC⟩ : ∃ l, Hid (l = nmL t k) := ⟨_, rfl⟩
      have HNX : Hid (nmL t (k + 1) = addN (addN acc x0) x2) := by show _ = _; rw [HACC.out]; show addN (addN _ _) _ = _; rw [← HX.out]
      have hna : na ≤ 2097152 := by have h1 := nmL_len t k; have h2 := HNM.out.1; omega
      rw [← HACC.out] at HNM
      obtain ⟨u, HU⟩ : ∃ u : Bool, Hid (u = inL x0 acc) := ⟨_, rfl⟩
      go_wp2_with fail
      refine (l08In_names (B + 1) v3 na acc x0 u wr HNM.out (by omega) HU.out).mono ?_
      rintro e1 w1 ⟨rfl, rfl⟩
      rcases Bool.eq_false_or_eq_true u with hu | hu
      · subst hu
        have HA1 : Hid (addN acc x0 = acc) := addN_no HU.out.symm
        obtain ⟨v, HV⟩ : ∃ u : Bool, Hid (u = inL x2 acc) := ⟨_, rfl⟩
        go_wp2_with fail
        refine (l08In_names (B + 1) v3 na (acc) x2 v wr HNM.out (by omega) HV.out).mono ?_
        rintro e1 w1 ⟨rfl, rfl⟩
        rcases Bool.eq_false_or_eq_true v with hv | hv
        · subst hv
          have HA2 : Hid (nmL t (k + 1) = acc) := by show _ = _; rw [HNX.out, HA1.out, addN_no HV.out.symm]
          go_wp2
          go_roundw
          case rel => exact ⟨k + 1, na, _, by go_num, rfl, by omega, by rw [HA2.out]; exact HNM, HBR⟩
          case measure => simp [intOf]; omega
        · subst hv
          have HA2 : Hid (nmL t (k + 1) = acc ++ [x2]) := by show _ = _; rw [HNX.out, HA1.out, addN_yes HV.out.symm]
          have howns := (HNM.out.2).alloc (.cells #[.string x2] 9)
          have hlts := (HNM.out.2).lt
          go_wp2_with (at_builtin; refine wpList_append_lies _ rfl (.tmp 40) (.tmp 47) 42 rfl (B + 1) 9 i9 (.string ⟨#[]⟩) 1 16 Try.underlying42 hi9 hz90 hz91 hz92 rfl (by decide) _ na (strC acc) rfl howns ⟨wr.heap.size, 0, none⟩ 1 1 [.string x2] rfl rfl (news_new1 wr (.string x2) 9) (by simp [Value.oneCell']) (by decide) (by unfold maxLen; omega) (by omega) (by have := HSR.out; simp; omega) _ rfl ?_)
          intro gs caps w8 hown5 hgrow5 hloc5 hg5
          have HNMs : Hid (NamesAt (B + 1) w8 (.slice (some ⟨gs, 0, none⟩) (na + 1) caps) (na + 1) (acc ++ [x2])) := ⟨by rw [List.length_append, HNM.out.1]; rfl, by rw [strC_snoc]; exact hown5⟩
          have HB6Xs : Hid (Below (B + 1) wr w8) := ((Below.refl _ _).alloc (by have := HSR.out; have := HBR.out.size; have := HSW.out; omega) _).trans (own_grown hgrow5 (fun c hc => (hlts c hc).1) (by have := HSR.out; have := HBR.out.size; have := HSW.out; simp; omega))
          have HB6s : Hid (Below (B + 1) W w8) := HBR.out.trans HB6Xs.out
          clear howns hlts hown5 hgrow5 hloc5 hg5
          go_wp2
          go_roundw
          case rel => exact ⟨k + 1, na + 1, _, by go_num, rfl, by omega, by rw [HA2.out]; exact HNMs, HB6s⟩
          case measure => simp [intOf]; omega
      · subst hu
        have HA1 : Hid (addN acc x0 = acc ++ [x0]) := addN_yes HU.out.symm
        have hownf := (HNM.out.2).alloc (.cells #[.string x0] 9)
        have hltf := (HNM.out.2).lt
        go_wp2_with (at_builtin; refine wpList_append_lies _ rfl (.tmp 22) (.tmp 29) 42 rfl (B + 1) 9 i9 (.string ⟨#[]⟩) 1 16 Try.underlying42 hi9 hz90 hz91 hz92 rfl (by decide) _ na (strC acc) rfl hownf ⟨wr.heap.size, 0, none⟩ 1 1 [.string x0] rfl rfl (news_new1 wr (.string x0) 9) (by simp [Value.oneCell']) (by decide) (by unfold maxLen; omega) (by omega) (by have := HSR.out; simp; omega) _ rfl ?_)
        intro gf capf w6 hown5 hgrow5 hloc5 hg5
        have HNMf : Hid (NamesAt (B + 1) w6 (.slice (some ⟨gf, 0, none⟩) (na + 1) capf) (na + 1) (acc ++ [x0])) := ⟨by rw [List.length_append, HNM.out.1]; rfl, by rw [strC_snoc]; exact hown5⟩
        have HB6Xf : Hid (Below (B + 1) wr w6) := ((Below.refl _ _).alloc (by have := HSR.out; have := HBR.out.size; have := HSW.out; omega) _).trans (own_grown hgrow5 (fun c hc => (hltf c hc).1) (by have := HSR.out; have := HBR.out.size; have := HSW.out; simp; omega))
        have HB6f : Hid (Below (B + 1) W w6) := HBR.out.trans HB6Xf.out
        clear hownf hltf hown5 hgrow5 hloc5 hg5
        have HB6 := HB6f
        have HB6X := HB6Xf
        clear p0 p2 q0 q1 q2 q3
        obtain ⟨z0, z1, z2, z3⟩ := q_cells (HQ.out.of_block (HB6.out.block _ (by omega)))
        have p2' : w6.cell? ⟨g, og + k * 3 + 2, none⟩ = some (.string x2) := by
          have h6 := HB6X.out
          exact cell_below HP2.out h6 HGB.out
        obtain ⟨v, HV⟩ : ∃ u : Bool, Hid (u = inL x2 (acc ++ [x0])) := ⟨_, rfl⟩
        go_wp2_with fail
        refine (l08In_names (B + 1) (.slice (some ⟨gf, 0, none⟩) (na + 1) capf) (na + 1) (acc ++ [x0]) x2 v w6 HNMf.out (by omega) HV.out).mono ?_
        rintro e1 w1 ⟨rfl, rfl⟩
        rcases Bool.eq_false_or_eq_true v with hv | hv
        · subst hv
          have HA2 : Hid (nmL t (k + 1) = acc ++ [x0]) := by show _ = _; rw [HNX.out, HA1.out, addN_no HV.out.symm]
          go_wp2
          go_roundw
          case rel => exact ⟨k + 1, (na + 1), _, by go_num, rfl, by omega, by rw [HA2.out]; exact HNMf, HB6⟩
          case measure => simp [intOf]; omega
        · subst hv
          have HA2 : Hid (nmL t (k + 1) = acc ++ [x0] ++ [x2]) := by show _ = _; rw [HNX.out, HA1.out, addN_yes HV.out.symm]
          have howns := (HNMf.out.2).alloc (.cells #[.string x2] 9)
          have hlts := (HNMf.out.2).lt
          go_wp2_with (at_builtin; refine wpList_append_lies _ rfl (.tmp 40) (.tmp 47) 42 rfl (B + 1) 9 i9 (.string ⟨#[]⟩) 1 16 Try.underlying42 hi9 hz90 hz91 hz92 rfl (by decide) _ (na + 1) (strC (acc ++ [x0])) rfl howns ⟨w6.heap.size, 0, none⟩ 1 1 [.string x2] rfl rfl (news_new1 w6 (.string x2) 9) (by simp [Value.oneCell']) (by decide) (by unfold maxLen; omega) (by omega) (by have := HB6.out.size; have := HSW.out; simp; omega) _ rfl ?_)
          intro gs caps w8 hown5 hgrow5 hloc5 hg5
          have HNMs : Hid (NamesAt (B + 1) w8 (.slice (some ⟨gs, 0, none⟩) ((na + 1) + 1) caps) ((na + 1) + 1) ((acc ++ [x0]) ++ [x2])) := ⟨by rw [List.length_append, HNMf.out.1]; rfl, by rw [strC_snoc]; exact hown5⟩
          have HB6Xs : Hid (Below (B + 1) w6 w8) := ((Below.refl _ _).alloc (by have := HSR.out; have := HB6.out.size; have := HSW.out; omega) _).trans (own_grown hgrow5 (fun c hc => (hlts c hc).1) (by have := HSR.out; have := HB6.out.size; have := HSW.out; simp; omega))
          have HB6s : Hid (Below (B + 1) W w8) := HB6.out.trans HB6Xs.out
          clear howns hlts hown5 hgrow5 hloc5 hg5
          go_wp2
          go_roundw
          case rel => exact ⟨k + 1, (na + 1) + 1, _, by go_num, rfl, by omega, by rw [HA2.out]; exact HNMs, HB6s⟩
          case measure => simp [intOf]; omega
    · obtain rfl : k = n2 := by omega
      obtain ⟨ao, cc, rfl, hin⟩ := own_texts HNM.out.2 HNM.out.1
      have HIN : Hid (FlOwn 1 (B + 1) wr.heap.size wr ao na (tC (nmL t k))) := hin
      clear hin
      go_wp2
      obtain rfl : FF = Try.f20 := HFF.out
      go_ret
      have hb := HB.out
      exact ⟨ao, na, cc, rfl, HNM.out.1, HIN.out.wide (by omega) (Nat.le_refl _), HBW.out.trans (HBR.out.mono (by omega))⟩

end Go.Proofs.Ytkcflhlipdnbnaa
