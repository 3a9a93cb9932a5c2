/-
  The walk of FnExactBagJoin.
-/
import Derived.Test.YtijbngdafgmpaaaJoinS
import Derived.Test.YtijbngdafgmpaaaMarkC
namespace Go.Proofs.Ytijbngdafgmpaaa
open Go.RowKit

theorem rowsLen_le {l : List It} {c : Nat} (h : ∀ i, i < l.length → (at' l i).1.length ≤ c) : ∀ k, k ≤ l.length → rowsLen l k ≤ c * k := by
  intro k
  induction k with
  | zero => intro _; simp [rowsLen]
  | succ k ih => intro hk; have h1 := ih (by omega); have h2 := h k (by omega); simp only [rowsLen]; rw [Nat.mul_succ]; omega
theorem ok_bounds {l : List It} {n : Nat} (h : okBag l = true) (hn : l.length = n) : n ≤ 1048576 ∧ (∀ i, i < n → (at' l i).1.length ≤ 1048576) ∧ rowsLen l n ≤ 1048576 := by
  have h3 := okBag_len h
  have h4 : ∀ i, i < l.length → (at' l i).1.length ≤ 4 := fun i hi => ok_rows h hi
  have h5 := rowsLen_le h4 n (by omega)
  exact ⟨by omega, fun i hi => by have := h4 i (by omega); omega, by omega⟩
theorem join_bounds {l k : List It} {m : Nat} (hm : (joinR l k).length = m) : m ≤ 1048576 ∧ (∀ i, i < m → (at' (joinR l k) i).1.length ≤ 1048576) ∧ rowsLen (joinR l k) m ≤ 1048576 := by
  rcases hv : joinOk l k with _ | _
  · rw [joinR_no hv] at hm ⊢
    have e : m = 0 := by simpa using hm.symm
    subst e
    exact ⟨by omega, fun i hi => by omega, by simp [rowsLen]⟩
  · rw [joinR_yes hv] at hm ⊢
    unfold joinOk at hv
    simp only [Bool.and_eq_true] at hv
    exact ok_bounds hv.2.2 hm
theorem bag_alloc {lo : Nat} {w : World} {a : Option Addr} {l : List It} (h : BagIn lo w.heap.size w a l) (o : Obj) : BagIn lo (w.alloc o).heap.size (w.alloc o) a l :=
  (h.below (below1' w o) (Nat.le_refl _)).wide (Nat.le_refl _) (by simp)
/-- what is known where a box was laid somewhere among the calls -/
theorem box_leaf {s : Nat} {w1 u : World} {P n cap : Nat} {a : Option Addr} {l : List It} (hP : One u P (.slice none 0 0)) (hs : s ≤ P) (hb : Below s w1 u) (hx : BagIn s u.heap.size u a l) :
    Hid (s ≤ P ∧ P < (u.setCell ⟨P, 0, none⟩ (.slice a n cap)).heap.size) ∧ Hid (Blk (u.setCell ⟨P, 0, none⟩ (.slice a n cap)) P 1 (fun _ => .slice a n cap)) ∧ Hid (BagIn s (u.setCell ⟨P, 0, none⟩ (.slice a n cap)).heap.size (u.setCell ⟨P, 0, none⟩ (.slice a n cap)) a l) ∧ Hid (Below s w1 (u.setCell ⟨P, 0, none⟩ (.slice a n cap))) := by
  refine ⟨⟨hs, by have := hP.lt; simpa using this⟩, (hP.set _).blk, ?_, hb.setCell hs _⟩
  have := bag_one_set hx hP (.slice a n cap)
  exact this.wide (Nat.le_refl _) (by simp)

theorem box_fresh {s : Nat} {w1 u : World} {n cap : Nat} {a : Option Addr} {l : List It} (hs : s ≤ u.heap.size) (hb : Below s w1 u) (hx : BagIn s u.heap.size u a l) :
    Hid (s ≤ u.heap.size ∧ u.heap.size < (u.alloc (.cells #[.slice a n cap] 26)).heap.size) ∧ Hid (Blk (u.alloc (.cells #[.slice a n cap] 26)) u.heap.size 1 (fun _ => .slice a n cap)) ∧ Hid (BagIn s (u.alloc (.cells #[.slice a n cap] 26)).heap.size (u.alloc (.cells #[.slice a n cap] 26)) a l) ∧ Hid (Below s w1 (u.alloc (.cells #[.slice a n cap] 26))) :=
  ⟨⟨hs, by simp⟩, blk_one u _ rfl _ _, bag_alloc hx _, hb.alloc hs _⟩

set_option maxHeartbeats 4000000 in
set_option maxRecDepth 100000 in
theorem law_10 (a0 : Option Addr) (n0 cap0 : Nat) (l0 : List It) (a1 : Option Addr) (n1 cap1 : Nat) (l1 : List It) (w : World) (hl0 : l0.length = n0 ∧ ∀ i, i < n0 → (l0.getD i ([], 0)).1.length ≤ maxLen) (hm0 : n0 ≤ maxLen) (hr0 : BagIn 0 w.heap.size w a0 l0) (hl1 : l1.length = n1 ∧ ∀ i, i < n1 → (l1.getD i ([], 0)).1.length ≤ maxLen) (hm1 : n1 ≤ maxLen) (hr1 : BagIn 0 w.heap.size w a1 l1) :
    Calls Try.prog 10 #[.agg #[.slice a0 n0 cap0], .agg #[.slice a1 n1 cap1]] w fun e w' => e = .returned (.bool true) ∧ Below w.heap.size w w' := by
  have HR0 : Hid (BagIn 0 w.heap.size w a0 l0) := hr0
  have HL0 : Hid (l0.length = n0) := hl0.1
  have HLM : Hid (∀ i, i < n0 → (l0.getD i ([], 0)).1.length ≤ maxLen) := hl0.2
  have HMX : Hid (n0 ≤ maxLen) := hm0
  have HR1 : Hid (BagIn 0 w.heap.size w a1 l1) := hr1
  have HL1 : Hid (l1.length = n1) := hl1.1
  have HLM1 : Hid (∀ i, i < n1 → (l1.getD i ([], 0)).1.length ≤ maxLen) := hl1.2
  have HMX1 : Hid (n1 ≤ maxLen) := hm1
  clear hr0 hl0 hm0 hr1 hl1 hm1
  have HDS : Hid (Held w ((w.alloc (.cells #[.slice a0 n0 cap0] 52)).alloc (.cells #[.slice a1 n1 cap1] 52)) [(w.heap.size + 1, .slice a1 n1 cap1), (w.heap.size, .slice a0 n0 cap0)]) := by
    have h := (Held.start w (.slice a0 n0 cap0) 52).more (.slice a1 n1 cap1) 52
    simp only [World.size_alloc] at h
    exact h
  go_enter Try.func10, Try.ntmps10
  go_wp2_with fail
  refine (szBag_any 0 w.heap.size a0 n0 cap0 1048576 l0 _ (HR0.out.below (below2 w _ _) (Nat.le_refl _)) (by simp; omega) HL0.out HMX.out HLM.out (by omega)).mono ?_
  rintro e wa ⟨x, rfl, HX, hba⟩
  have HD_a : Hid (Held w wa [(w.heap.size + 1, .slice a1 n1 cap1), (w.heap.size, .slice a0 n0 cap0)]) := HDS.out.below hba.out
  clear hba HDS
  by_cases hx : x < 0
  · go_wp2
    go_ret
    exact ⟨rfl, HD_a.out.bel⟩
  · obtain ⟨X, rfl⟩ : ∃ X : Nat, x = (X : Int) := ⟨x.toNat, by omega⟩
    have HM : Hid (n0 ≤ 1048576 ∧ (∀ i, i < n0 → (at' l0 i).1.length ≤ 1048576) ∧ rowsLen l0 n0 ≤ 1048576) := by
      rcases HX.out with h | ⟨h1, h2⟩
      · omega
      · refine ⟨by omega, fun i hi => ?_, by omega⟩
        have := row_le l0 hi
        omega
    have hX : X ≤ 1048576 := by
      rcases HX.out with h | ⟨h1, h2⟩
      · omega
      · omega
    have ca := HD_a.out.cell (b := w.heap.size + 1) (v := .slice a1 n1 cap1) (by simp)
    clear HX
    go_wp2_with fail
    refine (szBag_any 0 w.heap.size a1 n1 cap1 X l1 _ (HR1.out.below HD_a.out.bel (Nat.le_refl _)) HD_a.out.bel.size HL1.out HMX1.out HLM1.out hX).mono ?_
    rintro e w1 ⟨x, rfl, HX, hb1⟩
    have HD_0 : Hid (Held w w1 [(w.heap.size + 1, .slice a1 n1 cap1), (w.heap.size, .slice a0 n0 cap0)]) := HD_a.out.below hb1.out
    clear hb1 HD_a ca
    by_cases hx : x < 0
    · go_wp2
      go_ret
      exact ⟨rfl, HD_0.out.bel⟩
    · have HM1 : Hid (n1 ≤ 1048576 ∧ (∀ i, i < n1 → (at' l1 i).1.length ≤ 1048576) ∧ rowsLen l1 n1 ≤ 1048576) := by
        rcases HX.out with h | ⟨h1, h2⟩
        · omega
        · refine ⟨by omega, fun i hi => ?_, by omega⟩
          have := row_le l1 hi
          omega
      obtain ⟨LL, HLL⟩ : ∃ LL, Hid (LL = joinR l0 l1) := ⟨_, rfl⟩
      clear HX
      have ZZ1 : Hid (w.heap.size + 1 < w1.heap.size) := HD_0.out.lt (List.mem_cons_self ..)
      have q_2 := HD_0.out.cell (b := w.heap.size) (v := .slice a0 n0 cap0) (by simp)
      have q_3 := HD_0.out.cell (b := w.heap.size + 1) (v := .slice a1 n1 cap1) (by simp)
      have HCf1 : Hid (∀ w0, Below w1.heap.size w1 w0 → Calls Try.prog 42 #[.agg #[.slice a0 n0 cap0]] w0 fun e w' => ∃ g : Nat, e = .returned (.agg #[.slice (some ⟨g, 0, none⟩) n0 n0]) ∧ Hid (BagIn w1.heap.size w'.heap.size w' (some ⟨g, 0, none⟩) l0) ∧ Hid (Below w1.heap.size w1 w') ∧ Hid (Below w0.heap.size w0 w') ∧ (w'.cell? ⟨w.heap.size, 0, none⟩ = some (.slice a0 n0 cap0) ∧ w'.cell? ⟨w.heap.size + 1, 0, none⟩ = some (.slice a1 n1 cap1))) := fun w0 h =>
        (toB a0 n0 cap0 l0 HR0.out (HD_0.out.below h) HL0.out HM.out.1 HM.out.2.1).mono fun _ _ ⟨g, h1, h2, h3, h4⟩ =>
          ⟨g, h1, h2.out.toIn.wide h.size (Nat.le_refl _), h.trans (h4.out.mono h.size), h4.out, h3.out.cell (by simp), h3.out.cell (by simp)⟩
      have HCf2 : Hid (∀ w0, Below w1.heap.size w1 w0 → Calls Try.prog 42 #[.agg #[.slice a1 n1 cap1]] w0 fun e w' => ∃ g : Nat, e = .returned (.agg #[.slice (some ⟨g, 0, none⟩) n1 n1]) ∧ Hid (BagIn w1.heap.size w'.heap.size w' (some ⟨g, 0, none⟩) l1) ∧ Hid (Below w1.heap.size w1 w') ∧ Hid (Below w0.heap.size w0 w') ∧ (w'.cell? ⟨w.heap.size, 0, none⟩ = some (.slice a0 n0 cap0) ∧ w'.cell? ⟨w.heap.size + 1, 0, none⟩ = some (.slice a1 n1 cap1))) := fun w0 h =>
        (toB a1 n1 cap1 l1 HR1.out (HD_0.out.below h) HL1.out HM1.out.1 HM1.out.2.1).mono fun _ _ ⟨g, h1, h2, h3, h4⟩ =>
          ⟨g, h1, h2.out.toIn.wide h.size (Nat.le_refl _), h.trans (h4.out.mono h.size), h4.out, h3.out.cell (by simp), h3.out.cell (by simp)⟩
      have HCf3 : Hid (∀ w0 (g1 g2 : Nat), Below w1.heap.size w1 w0 → BagIn w1.heap.size w0.heap.size w0 (some ⟨g1, 0, none⟩) l0 → BagIn w1.heap.size w0.heap.size w0 (some ⟨g2, 0, none⟩) l1 → Calls Try.prog 47 #[.agg #[.slice (some ⟨g1, 0, none⟩) n0 n0], .agg #[.slice (some ⟨g2, 0, none⟩) n1 n1]] w0 fun e w' => ∃ (a' : Option Addr) (n' cap' : Nat) (ok : Bool), e = .returned (.tuple #[.agg #[.slice a' n' cap'], .bool ok]) ∧ Hid (ok = joinOk l0 l1) ∧ Hid (LL.length = n') ∧ Hid (BagIn w1.heap.size w'.heap.size w' a' LL) ∧ Hid (Below w1.heap.size w1 w') ∧ Hid (Below w0.heap.size w0 w') ∧ (w'.cell? ⟨w.heap.size, 0, none⟩ = some (.slice a0 n0 cap0) ∧ w'.cell? ⟨w.heap.size + 1, 0, none⟩ = some (.slice a1 n1 cap1))) := by
        intro w0 g1 g2 h h1 h2
        refine (specJoin_any w1.heap.size w0.heap.size w1.heap.size w0.heap.size (some ⟨g1, 0, none⟩) (some ⟨g2, 0, none⟩) n0 n0 n1 n1 l0 l1 w0 h1 h2 (Nat.le_refl _) (Nat.le_refl _) HL0.out HL1.out HM.out.1 HM1.out.1 HM.out.2.1 HM1.out.2.1).mono ?_
        rintro e w' ⟨a', n', cap', ok, rfl, h3, h4, h5, h6⟩
        rw [← HLL.out] at h4 h5
        have hh := HD_0.out.below h
        exact ⟨a', n', cap', ok, rfl, h3, h4, h5.out.wide h.size (Nat.le_refl _), h.trans (h6.out.mono h.size), h6.out, (hh.below h6.out).cell (by simp), (hh.below h6.out).cell (by simp)⟩
      go_upto_region 8 with fail
      go_cut [6, 7] (fun s6 s7 wc => ∃ (P n' cap' : Nat) (a' : Option Addr) (ok : Bool), s6 = .pointer (some ⟨P, 0, none⟩) ∧ s7 = .bool ok ∧ Hid (ok = joinOk l0 l1) ∧ Hid (LL.length = n') ∧ Hid (w1.heap.size ≤ P ∧ P < wc.heap.size) ∧ Hid (Blk wc P 1 (fun _ => .slice a' n' cap')) ∧ Hid (BagIn w1.heap.size wc.heap.size wc a' LL) ∧ Hid (Below w1.heap.size w1 wc))
      case first =>
        refine wp_region_held_drew (S := fun w' => w'.cell? ⟨w.heap.size, 0, none⟩ = some (.slice a0 n0 cap0) ∧ w'.cell? ⟨w.heap.size + 1, 0, none⟩ = some (.slice a1 n1 cap1)) (by kernel_rfl) ⟨q_2, q_3⟩ (fun hHeld => ?_)
        have BEf0 : Hid (Below w1.heap.size w1 w1.drew) := (Below.refl _ _).drew
        refine wpAnyH_take (i := 0) (oi := _) (v := ?_) rfl (by kernel_rfl) (by kernel_rfl) (by kernel_rfl) (fun _ _ _ h => h) (Or.inl ⟨by rfl, ?_⟩) (by assumption) ?_
        rotate_left
        · intro w hSw; (try dsimp only at hSw); go_simp; try with_reducible rfl
        simp only [Act.put]
        refine wpAnyH_take (i := 2) (oi := _) (v := ?_) rfl (by kernel_rfl) (by kernel_rfl) (by kernel_rfl) (fun _ _ _ h => h) (Or.inl ⟨by rfl, ?_⟩) (by assumption) ?_
        rotate_left
        · intro w hSw; (try dsimp only at hSw); go_simp; try with_reducible rfl
        simp only [Act.put]
        have hHeld0 := hHeld
        refine wpAnyH_ready (rs := [1, 8]) (by kernel_rfl) (by simp) ?_
        refine AllReadyH.cons rfl (fun K hK => ?_) ?_
        · go_simp
          go_wp2_with (go_at_call 42; refine (HCf1.out _ BEf0.out).mono ?_; rintro e wf1 ⟨gf1, rfl, XXf1, BEf1, BWf1, hkf1⟩)
          refine hK.out _ _ hkf1 (fun hHeld => ?_)
          clear hK K
          refine wpAnyH_ready (rs := [3, 8]) (by kernel_rfl) (by simp) ?_
          refine AllReadyH.cons rfl (fun K hK => ?_) ?_
          · go_simp
            go_wp2_with (go_at_call 42; refine (HCf2.out _ BEf1.out).mono ?_; rintro e wf2 ⟨gf2, rfl, XXf2, BEf2, BWf2, hkf2⟩)
            refine hK.out _ _ hkf2 (fun hHeld => ?_)
            clear hK K
            have XXf1_2 : Hid (BagIn w1.heap.size wf2.heap.size wf2 (some ⟨gf1, 0, none⟩) l0) := (XXf1.out.below BWf2.out (Nat.le_refl _)).wide (Nat.le_refl _) BWf2.out.size
            refine wpAnyH_ready (rs := [4, 8]) (by kernel_rfl) (by simp) ?_
            refine AllReadyH.cons rfl (fun K hK => ?_) ?_
            · go_simp
              go_wp2_with (go_at_call 47; refine (HCf3.out _ _ _ BEf2.out XXf1_2.out XXf2.out).mono ?_; rintro e wf3 ⟨af3, nf3, capf3, okf3, rfl, HOf3, HNf3, XXf3, BEf3, BWf3, hkf3⟩)
              refine hK.out _ _ hkf3 (fun hHeld => ?_)
              clear hK K
              have XXf1_3 : Hid (BagIn w1.heap.size wf3.heap.size wf3 (some ⟨gf1, 0, none⟩) l0) := (XXf1_2.out.below BWf3.out (Nat.le_refl _)).wide (Nat.le_refl _) BWf3.out.size
              have XXf2_3 : Hid (BagIn w1.heap.size wf3.heap.size wf3 (some ⟨gf2, 0, none⟩) l1) := (XXf2.out.below BWf3.out (Nat.le_refl _)).wide (Nat.le_refl _) BWf3.out.size
              refine wpAnyH_take (i := 5) (oi := _) (v := ?_) rfl (by kernel_rfl) (by kernel_rfl) (by kernel_rfl) (fun _ _ _ h => h) (Or.inl ⟨by rfl, ?_⟩) (by assumption) ?_
              rotate_left
              · intro w hSw; (try dsimp only at hSw); go_simp; try with_reducible rfl
              simp only [Act.put]
              refine wpAnyH_take (i := 6) (oi := _) (v := ?_) rfl (by kernel_rfl) (by kernel_rfl) (by kernel_rfl) (fun _ _ _ h => h) (Or.inl ⟨by rfl, ?_⟩) (by assumption) ?_
              rotate_left
              · intro w hSw; (try dsimp only at hSw); go_simp; try with_reducible rfl
              simp only [Act.put]
              refine wpAnyH_take (i := 7) (oi := _) (v := ?_) rfl (by kernel_rfl) (by kernel_rfl) (by kernel_rfl) (fun _ _ _ h => h) (Or.inl ⟨by rfl, ?_⟩) (by assumption) ?_
              rotate_left
              · intro w hSw; (try dsimp only at hSw); go_simp; try with_reducible rfl
              simp only [Act.put]
              refine wpAnyH_ready (rs := [8]) (by kernel_rfl) (by simp) ?_
              refine AllReadyH.cons rfl (fun K hK => ?_) ?_
              · go_simp
                have PBf1 : Hid (One (wf3.alloc (.cells #[.slice none 0 0] 26)) wf3.heap.size (.slice none 0 0)) := One.new wf3 _ rfl _
                have BAf1 : Hid (Below w1.heap.size w1 (wf3.alloc (.cells #[.slice none 0 0] 26))) := BEf3.out.alloc BEf3.out.size _
                have PLf1 : Hid (w1.heap.size ≤ wf3.heap.size) := BEf3.out.size
                have XXf1_p1 : Hid (BagIn w1.heap.size (wf3.alloc (.cells #[.slice none 0 0] 26)).heap.size (wf3.alloc (.cells #[.slice none 0 0] 26)) (some ⟨gf1, 0, none⟩) l0) := bag_alloc XXf1_3.out _
                have XXf2_p1 : Hid (BagIn w1.heap.size (wf3.alloc (.cells #[.slice none 0 0] 26)).heap.size (wf3.alloc (.cells #[.slice none 0 0] 26)) (some ⟨gf2, 0, none⟩) l1) := bag_alloc XXf2_3.out _
                have XXf3_p1 : Hid (BagIn w1.heap.size (wf3.alloc (.cells #[.slice none 0 0] 26)).heap.size (wf3.alloc (.cells #[.slice none 0 0] 26)) af3 LL) := bag_alloc XXf3.out _
                have hpf1 := (⟨cell_below hkf3.1 (below1' wf3 (.cells #[.slice none 0 0] 26)) (lt_of_cell hkf3.1), cell_below hkf3.2 (below1' wf3 (.cells #[.slice none 0 0] 26)) (lt_of_cell hkf3.2)⟩ : (wf3.alloc (.cells #[.slice none 0 0] 26)).cell? ⟨w.heap.size, 0, none⟩ = some (.slice a0 n0 cap0) ∧ (wf3.alloc (.cells #[.slice none 0 0] 26)).cell? ⟨w.heap.size + 1, 0, none⟩ = some (.slice a1 n1 cap1))
                refine hK.out _ _ hpf1 (fun hHeld => ?_)
                clear hK K
                refine wpAnyH_ready (rs := [9]) (by kernel_rfl) (by simp) ?_
                refine AllReadyH.cons rfl (fun K hK => ?_) ?_
                · go_simp
                  refine hK.out _ _ ⟨cell_below hkf3.1 (below1' wf3 _) (lt_of_cell hkf3.1), cell_below hkf3.2 (below1' wf3 _) (lt_of_cell hkf3.2)⟩ (fun hHeld => ?_)
                  clear hK K
                  refine wpAnyH_take (i := 10) (oi := _) (v := ?_) rfl (by kernel_rfl) (by kernel_rfl) (by kernel_rfl) (fun _ _ _ h => h) (Or.inl ⟨by rfl, ?_⟩) (by assumption) ?_
                  rotate_left
                  · intro w hSw; (try dsimp only at hSw); go_simp; try with_reducible rfl
                  simp only [Act.put]
                  refine wpAnyH_done (by kernel_rfl) ?_ _
                  simp only [List.getElem_toArray, List.getElem_cons_zero, List.getElem_cons_succ, List.setIfInBounds_toArray, List.set_cons_zero, List.set_cons_succ]
                  go_wp2_with fail
                  go_meet
                  case rel =>
                    obtain ⟨r1, r2, r3, r4⟩ := box_fresh (n := nf3) (cap := capf3) BEf3.out.size BEf3.out XXf3.out
                    exact ⟨_, nf3, capf3, af3, okf3, rfl, rfl, HOf3, HNf3, r1, r2, r3, r4⟩
                exact AllReadyH.nil
              exact AllReadyH.nil
            refine AllReadyH.cons rfl (fun K hK => ?_) ?_
            · go_simp
              have PBf2 : Hid (One (wf2.alloc (.cells #[.slice none 0 0] 26)) wf2.heap.size (.slice none 0 0)) := One.new wf2 _ rfl _
              have BAf2 : Hid (Below w1.heap.size w1 (wf2.alloc (.cells #[.slice none 0 0] 26))) := BEf2.out.alloc BEf2.out.size _
              have PLf2 : Hid (w1.heap.size ≤ wf2.heap.size) := BEf2.out.size
              have XXf1_p2 : Hid (BagIn w1.heap.size (wf2.alloc (.cells #[.slice none 0 0] 26)).heap.size (wf2.alloc (.cells #[.slice none 0 0] 26)) (some ⟨gf1, 0, none⟩) l0) := bag_alloc XXf1_2.out _
              have XXf2_p2 : Hid (BagIn w1.heap.size (wf2.alloc (.cells #[.slice none 0 0] 26)).heap.size (wf2.alloc (.cells #[.slice none 0 0] 26)) (some ⟨gf2, 0, none⟩) l1) := bag_alloc XXf2.out _
              have hpf2 := (⟨cell_below hkf2.1 (below1' wf2 (.cells #[.slice none 0 0] 26)) (lt_of_cell hkf2.1), cell_below hkf2.2 (below1' wf2 (.cells #[.slice none 0 0] 26)) (lt_of_cell hkf2.2)⟩ : (wf2.alloc (.cells #[.slice none 0 0] 26)).cell? ⟨w.heap.size, 0, none⟩ = some (.slice a0 n0 cap0) ∧ (wf2.alloc (.cells #[.slice none 0 0] 26)).cell? ⟨w.heap.size + 1, 0, none⟩ = some (.slice a1 n1 cap1))
              refine hK.out _ _ hpf2 (fun hHeld => ?_)
              clear hK K
              refine wpAnyH_ready (rs := [4]) (by kernel_rfl) (by simp) ?_
              refine AllReadyH.cons rfl (fun K hK => ?_) ?_
              · go_simp
                go_wp2_with (go_at_call 47; refine (HCf3.out _ _ _ BAf2.out XXf1_p2.out XXf2_p2.out).mono ?_; rintro e wf3 ⟨af3, nf3, capf3, okf3, rfl, HOf3, HNf3, XXf3, BEf3, BWf3, hkf3⟩)
                refine hK.out _ _ hkf3 (fun hHeld => ?_)
                clear hK K
                have XXf1_3a : Hid (BagIn w1.heap.size wf3.heap.size wf3 (some ⟨gf1, 0, none⟩) l0) := (XXf1_p2.out.below BWf3.out (Nat.le_refl _)).wide (Nat.le_refl _) BWf3.out.size
                have XXf2_3a : Hid (BagIn w1.heap.size wf3.heap.size wf3 (some ⟨gf2, 0, none⟩) l1) := (XXf2_p2.out.below BWf3.out (Nat.le_refl _)).wide (Nat.le_refl _) BWf3.out.size
                have PBf_3 : Hid (One wf3 wf2.heap.size (.slice none 0 0)) := PBf2.out.block (BWf3.out.block _ PBf2.out.lt)
                refine wpAnyH_take (i := 5) (oi := _) (v := ?_) rfl (by kernel_rfl) (by kernel_rfl) (by kernel_rfl) (fun _ _ _ h => h) (Or.inl ⟨by rfl, ?_⟩) (by assumption) ?_
                rotate_left
                · intro w hSw; (try dsimp only at hSw); go_simp; try with_reducible rfl
                simp only [Act.put]
                refine wpAnyH_take (i := 6) (oi := _) (v := ?_) rfl (by kernel_rfl) (by kernel_rfl) (by kernel_rfl) (fun _ _ _ h => h) (Or.inl ⟨by rfl, ?_⟩) (by assumption) ?_
                rotate_left
                · intro w hSw; (try dsimp only at hSw); go_simp; try with_reducible rfl
                simp only [Act.put]
                refine wpAnyH_take (i := 7) (oi := _) (v := ?_) rfl (by kernel_rfl) (by kernel_rfl) (by kernel_rfl) (fun _ _ _ h => h) (Or.inl ⟨by rfl, ?_⟩) (by assumption) ?_
                rotate_left
                · intro w hSw; (try dsimp only at hSw); go_simp; try with_reducible rfl
                simp only [Act.put]
                refine wpAnyH_ready (rs := [9]) (by kernel_rfl) (by simp) ?_
                refine AllReadyH.cons rfl (fun K hK => ?_) ?_
                · have zc := PBf_3.out.blk.cell (i := 0) (by omega)
                  have zf := PBf_3.out.blk.frozen 0
                  go_simp
                  refine hK.out _ _ ⟨cell_set hkf3.1 _ (show w.heap.size ≠ wf2.heap.size from by have y0 := ZZ1.out; have yp := PLf2.out; omega), cell_set hkf3.2 _ (show w.heap.size + 1 ≠ wf2.heap.size from by have y0 := ZZ1.out; have yp := PLf2.out; omega)⟩ (fun hHeld => ?_)
                  clear hK K
                  refine wpAnyH_take (i := 10) (oi := _) (v := ?_) rfl (by kernel_rfl) (by kernel_rfl) (by kernel_rfl) (fun _ _ _ h => h) (Or.inl ⟨by rfl, ?_⟩) (by assumption) ?_
                  rotate_left
                  · intro w hSw; (try dsimp only at hSw); go_simp; try with_reducible rfl
                  simp only [Act.put]
                  refine wpAnyH_done (by kernel_rfl) ?_ _
                  simp only [List.getElem_toArray, List.getElem_cons_zero, List.getElem_cons_succ, List.setIfInBounds_toArray, List.set_cons_zero, List.set_cons_succ]
                  go_wp2_with fail
                  go_meet
                  case rel =>
                    obtain ⟨r1, r2, r3, r4⟩ := box_leaf (n := nf3) (cap := capf3) PBf_3.out PLf2.out BEf3.out XXf3.out
                    exact ⟨_, nf3, capf3, af3, okf3, rfl, rfl, HOf3, HNf3, r1, r2, r3, r4⟩
                exact AllReadyH.nil
              exact AllReadyH.nil
            exact AllReadyH.nil
          refine AllReadyH.cons rfl (fun K hK => ?_) ?_
          · go_simp
            have PBf3 : Hid (One (wf1.alloc (.cells #[.slice none 0 0] 26)) wf1.heap.size (.slice none 0 0)) := One.new wf1 _ rfl _
            have BAf3 : Hid (Below w1.heap.size w1 (wf1.alloc (.cells #[.slice none 0 0] 26))) := BEf1.out.alloc BEf1.out.size _
            have PLf3 : Hid (w1.heap.size ≤ wf1.heap.size) := BEf1.out.size
            have XXf1_p3 : Hid (BagIn w1.heap.size (wf1.alloc (.cells #[.slice none 0 0] 26)).heap.size (wf1.alloc (.cells #[.slice none 0 0] 26)) (some ⟨gf1, 0, none⟩) l0) := bag_alloc XXf1.out _
            have hpf3 := (⟨cell_below hkf1.1 (below1' wf1 (.cells #[.slice none 0 0] 26)) (lt_of_cell hkf1.1), cell_below hkf1.2 (below1' wf1 (.cells #[.slice none 0 0] 26)) (lt_of_cell hkf1.2)⟩ : (wf1.alloc (.cells #[.slice none 0 0] 26)).cell? ⟨w.heap.size, 0, none⟩ = some (.slice a0 n0 cap0) ∧ (wf1.alloc (.cells #[.slice none 0 0] 26)).cell? ⟨w.heap.size + 1, 0, none⟩ = some (.slice a1 n1 cap1))
            refine hK.out _ _ hpf3 (fun hHeld => ?_)
            clear hK K
            refine wpAnyH_ready (rs := [3]) (by kernel_rfl) (by simp) ?_
            refine AllReadyH.cons rfl (fun K hK => ?_) ?_
            · go_simp
              go_wp2_with (go_at_call 42; refine (HCf2.out _ BAf3.out).mono ?_; rintro e wf2 ⟨gf2, rfl, XXf2, BEf2, BWf2, hkf2⟩)
              refine hK.out _ _ hkf2 (fun hHeld => ?_)
              clear hK K
              have XXf1_2a : Hid (BagIn w1.heap.size wf2.heap.size wf2 (some ⟨gf1, 0, none⟩) l0) := (XXf1_p3.out.below BWf2.out (Nat.le_refl _)).wide (Nat.le_refl _) BWf2.out.size
              have PBf_2 : Hid (One wf2 wf1.heap.size (.slice none 0 0)) := PBf3.out.block (BWf2.out.block _ PBf3.out.lt)
              refine wpAnyH_ready (rs := [4]) (by kernel_rfl) (by simp) ?_
              refine AllReadyH.cons rfl (fun K hK => ?_) ?_
              · go_simp
                go_wp2_with (go_at_call 47; refine (HCf3.out _ _ _ BEf2.out XXf1_2a.out XXf2.out).mono ?_; rintro e wf3 ⟨af3, nf3, capf3, okf3, rfl, HOf3, HNf3, XXf3, BEf3, BWf3, hkf3⟩)
                refine hK.out _ _ hkf3 (fun hHeld => ?_)
                clear hK K
                have XXf1_3a : Hid (BagIn w1.heap.size wf3.heap.size wf3 (some ⟨gf1, 0, none⟩) l0) := (XXf1_2a.out.below BWf3.out (Nat.le_refl _)).wide (Nat.le_refl _) BWf3.out.size
                have XXf2_3a : Hid (BagIn w1.heap.size wf3.heap.size wf3 (some ⟨gf2, 0, none⟩) l1) := (XXf2.out.below BWf3.out (Nat.le_refl _)).wide (Nat.le_refl _) BWf3.out.size
                have PBf_3 : Hid (One wf3 wf1.heap.size (.slice none 0 0)) := PBf_2.out.block (BWf3.out.block _ PBf_2.out.lt)
                refine wpAnyH_take (i := 5) (oi := _) (v := ?_) rfl (by kernel_rfl) (by kernel_rfl) (by kernel_rfl) (fun _ _ _ h => h) (Or.inl ⟨by rfl, ?_⟩) (by assumption) ?_
                rotate_left
                · intro w hSw; (try dsimp only at hSw); go_simp; try with_reducible rfl
                simp only [Act.put]
                refine wpAnyH_take (i := 6) (oi := _) (v := ?_) rfl (by kernel_rfl) (by kernel_rfl) (by kernel_rfl) (fun _ _ _ h => h) (Or.inl ⟨by rfl, ?_⟩) (by assumption) ?_
                rotate_left
                · intro w hSw; (try dsimp only at hSw); go_simp; try with_reducible rfl
                simp only [Act.put]
                refine wpAnyH_take (i := 7) (oi := _) (v := ?_) rfl (by kernel_rfl) (by kernel_rfl) (by kernel_rfl) (fun _ _ _ h => h) (Or.inl ⟨by rfl, ?_⟩) (by assumption) ?_
                rotate_left
                · intro w hSw; (try dsimp only at hSw); go_simp; try with_reducible rfl
                simp only [Act.put]
                refine wpAnyH_ready (rs := [9]) (by kernel_rfl) (by simp) ?_
                refine AllReadyH.cons rfl (fun K hK => ?_) ?_
                · have zc := PBf_3.out.blk.cell (i := 0) (by omega)
                  have zf := PBf_3.out.blk.frozen 0
                  go_simp
                  refine hK.out _ _ ⟨cell_set hkf3.1 _ (show w.heap.size ≠ wf1.heap.size from by have y0 := ZZ1.out; have yp := PLf3.out; omega), cell_set hkf3.2 _ (show w.heap.size + 1 ≠ wf1.heap.size from by have y0 := ZZ1.out; have yp := PLf3.out; omega)⟩ (fun hHeld => ?_)
                  clear hK K
                  refine wpAnyH_take (i := 10) (oi := _) (v := ?_) rfl (by kernel_rfl) (by kernel_rfl) (by kernel_rfl) (fun _ _ _ h => h) (Or.inl ⟨by rfl, ?_⟩) (by assumption) ?_
                  rotate_left
                  · intro w hSw; (try dsimp only at hSw); go_simp; try with_reducible rfl
                  simp only [Act.put]
                  refine wpAnyH_done (by kernel_rfl) ?_ _
                  simp only [List.getElem_toArray, List.getElem_cons_zero, List.getElem_cons_succ, List.setIfInBounds_toArray, List.set_cons_zero, List.set_cons_succ]
                  go_wp2_with fail
                  go_meet
                  case rel =>
                    obtain ⟨r1, r2, r3, r4⟩ := box_leaf (n := nf3) (cap := capf3) PBf_3.out PLf3.out BEf3.out XXf3.out
                    exact ⟨_, nf3, capf3, af3, okf3, rfl, rfl, HOf3, HNf3, r1, r2, r3, r4⟩
                exact AllReadyH.nil
              exact AllReadyH.nil
            exact AllReadyH.nil
          exact AllReadyH.nil
        refine AllReadyH.cons rfl (fun K hK => ?_) ?_
        · go_simp
          have PBf4 : Hid (One (w1.drew.alloc (.cells #[.slice none 0 0] 26)) w1.heap.size (.slice none 0 0)) := One.new w1.drew _ rfl _
          have BAf4 : Hid (Below w1.heap.size w1 (w1.drew.alloc (.cells #[.slice none 0 0] 26))) := BEf0.out.alloc BEf0.out.size _
          have PLf4 : Hid (w1.heap.size ≤ w1.heap.size) := BEf0.out.size
          have hpf4 := (⟨cell_below hHeld0.1 (below1' w1.drew (.cells #[.slice none 0 0] 26)) (lt_of_cell hHeld0.1), cell_below hHeld0.2 (below1' w1.drew (.cells #[.slice none 0 0] 26)) (lt_of_cell hHeld0.2)⟩ : (w1.drew.alloc (.cells #[.slice none 0 0] 26)).cell? ⟨w.heap.size, 0, none⟩ = some (.slice a0 n0 cap0) ∧ (w1.drew.alloc (.cells #[.slice none 0 0] 26)).cell? ⟨w.heap.size + 1, 0, none⟩ = some (.slice a1 n1 cap1))
          refine hK.out _ _ hpf4 (fun hHeld => ?_)
          clear hK K
          refine wpAnyH_ready (rs := [1]) (by kernel_rfl) (by simp) ?_
          refine AllReadyH.cons rfl (fun K hK => ?_) ?_
          · go_simp
            go_wp2_with (go_at_call 42; refine (HCf1.out _ BAf4.out).mono ?_; rintro e wf1 ⟨gf1, rfl, XXf1, BEf1, BWf1, hkf1⟩)
            refine hK.out _ _ hkf1 (fun hHeld => ?_)
            clear hK K
            have PBf_1 : Hid (One wf1 w1.heap.size (.slice none 0 0)) := PBf4.out.block (BWf1.out.block _ PBf4.out.lt)
            refine wpAnyH_ready (rs := [3]) (by kernel_rfl) (by simp) ?_
            refine AllReadyH.cons rfl (fun K hK => ?_) ?_
            · go_simp
              go_wp2_with (go_at_call 42; refine (HCf2.out _ BEf1.out).mono ?_; rintro e wf2 ⟨gf2, rfl, XXf2, BEf2, BWf2, hkf2⟩)
              refine hK.out _ _ hkf2 (fun hHeld => ?_)
              clear hK K
              have XXf1_2a : Hid (BagIn w1.heap.size wf2.heap.size wf2 (some ⟨gf1, 0, none⟩) l0) := (XXf1.out.below BWf2.out (Nat.le_refl _)).wide (Nat.le_refl _) BWf2.out.size
              have PBf_2 : Hid (One wf2 w1.heap.size (.slice none 0 0)) := PBf_1.out.block (BWf2.out.block _ PBf_1.out.lt)
              refine wpAnyH_ready (rs := [4]) (by kernel_rfl) (by simp) ?_
              refine AllReadyH.cons rfl (fun K hK => ?_) ?_
              · go_simp
                go_wp2_with (go_at_call 47; refine (HCf3.out _ _ _ BEf2.out XXf1_2a.out XXf2.out).mono ?_; rintro e wf3 ⟨af3, nf3, capf3, okf3, rfl, HOf3, HNf3, XXf3, BEf3, BWf3, hkf3⟩)
                refine hK.out _ _ hkf3 (fun hHeld => ?_)
                clear hK K
                have XXf1_3a : Hid (BagIn w1.heap.size wf3.heap.size wf3 (some ⟨gf1, 0, none⟩) l0) := (XXf1_2a.out.below BWf3.out (Nat.le_refl _)).wide (Nat.le_refl _) BWf3.out.size
                have XXf2_3a : Hid (BagIn w1.heap.size wf3.heap.size wf3 (some ⟨gf2, 0, none⟩) l1) := (XXf2.out.below BWf3.out (Nat.le_refl _)).wide (Nat.le_refl _) BWf3.out.size
                have PBf_3 : Hid (One wf3 w1.heap.size (.slice none 0 0)) := PBf_2.out.block (BWf3.out.block _ PBf_2.out.lt)
                refine wpAnyH_take (i := 5) (oi := _) (v := ?_) rfl (by kernel_rfl) (by kernel_rfl) (by kernel_rfl) (fun _ _ _ h => h) (Or.inl ⟨by rfl, ?_⟩) (by assumption) ?_
                rotate_left
                · intro w hSw; (try dsimp only at hSw); go_simp; try with_reducible rfl
                simp only [Act.put]
                refine wpAnyH_take (i := 6) (oi := _) (v := ?_) rfl (by kernel_rfl) (by kernel_rfl) (by kernel_rfl) (fun _ _ _ h => h) (Or.inl ⟨by rfl, ?_⟩) (by assumption) ?_
                rotate_left
                · intro w hSw; (try dsimp only at hSw); go_simp; try with_reducible rfl
                simp only [Act.put]
                refine wpAnyH_take (i := 7) (oi := _) (v := ?_) rfl (by kernel_rfl) (by kernel_rfl) (by kernel_rfl) (fun _ _ _ h => h) (Or.inl ⟨by rfl, ?_⟩) (by assumption) ?_
                rotate_left
                · intro w hSw; (try dsimp only at hSw); go_simp; try with_reducible rfl
                simp only [Act.put]
                refine wpAnyH_ready (rs := [9]) (by kernel_rfl) (by simp) ?_
                refine AllReadyH.cons rfl (fun K hK => ?_) ?_
                · have zc := PBf_3.out.blk.cell (i := 0) (by omega)
                  have zf := PBf_3.out.blk.frozen 0
                  go_simp
                  refine hK.out _ _ ⟨cell_set hkf3.1 _ (show w.heap.size ≠ w1.heap.size from by have y0 := ZZ1.out; have yp := PLf4.out; omega), cell_set hkf3.2 _ (show w.heap.size + 1 ≠ w1.heap.size from by have y0 := ZZ1.out; have yp := PLf4.out; omega)⟩ (fun hHeld => ?_)
                  clear hK K
                  refine wpAnyH_take (i := 10) (oi := _) (v := ?_) rfl (by kernel_rfl) (by kernel_rfl) (by kernel_rfl) (fun _ _ _ h => h) (Or.inl ⟨by rfl, ?_⟩) (by assumption) ?_
                  rotate_left
                  · intro w hSw; (try dsimp only at hSw); go_simp; try with_reducible rfl
                  simp only [Act.put]
                  refine wpAnyH_done (by kernel_rfl) ?_ _
                  simp only [List.getElem_toArray, List.getElem_cons_zero, List.getElem_cons_succ, List.setIfInBounds_toArray, List.set_cons_zero, List.set_cons_succ]
                  go_wp2_with fail
                  go_meet
                  case rel =>
                    obtain ⟨r1, r2, r3, r4⟩ := box_leaf (n := nf3) (cap := capf3) PBf_3.out PLf4.out BEf3.out XXf3.out
                    exact ⟨_, nf3, capf3, af3, okf3, rfl, rfl, HOf3, HNf3, r1, r2, r3, r4⟩
                exact AllReadyH.nil
              exact AllReadyH.nil
            exact AllReadyH.nil
          exact AllReadyH.nil
        exact AllReadyH.nil
      case rest =>
        clear q_2 q_3
        obtain ⟨P4, n4, cap4, a4, ok4, rfl, rfl, HOK_4, HN_4, PP_4, PK_4, X_4, B_4⟩ := hcut
        clear HCf1 HCf2 HCf3
        obtain ⟨w4, HW_4⟩ : ∃ x, x = wc := ⟨_, rfl⟩
        subst HW_4
        have HD_5 : Hid (Held w w4 [(w.heap.size + 1, .slice a1 n1 cap1), (w.heap.size, .slice a0 n0 cap0)]) := HD_0.out.below B_4.out
        clear HD_0
        have HD_6 : Hid (Held w w4 [(P4, .slice a4 n4 cap4), (w.heap.size + 1, .slice a1 n1 cap1), (w.heap.size, .slice a0 n0 cap0)]) := ⟨HD_5.out.bel, fun x hx => by rcases List.mem_cons.1 hx with rfl | hx; exact PK_4.out; exact HD_5.out.box x hx⟩
        clear HD_5
        have ZZ7 : Hid (w1.heap.size ≤ w4.heap.size) := B_4.out.size
        have ZZ8 : Hid (w1.heap.size ≤ P4 ∧ P4 < w4.heap.size) := PP_4.out
        have HN4 : Hid (LL.length = n4) := HN_4.out
        have HOK4 : Hid (ok4 = joinOk l0 l1) := HOK_4.out
        clear HN_4 HOK_4
        have W0_9 : Hid (BagIn w1.heap.size w4.heap.size w4 a4 LL) := X_4.out
        clear X_4 PP_4 PK_4 B_4
        have HE : Hid (n4 ≤ 1048576 ∧ (∀ i, i < n4 → (at' LL i).1.length ≤ 1048576) ∧ rowsLen LL n4 ≤ 1048576) := by rw [HLL.out] at HN4 ⊢; exact join_bounds HN4.out
        have q_10 := HD_6.out.cell (b := w.heap.size) (v := .slice a0 n0 cap0) (by simp)
        go_wp2_with fail
        refine (toB a0 n0 cap0 l0 HR0.out HD_6.out HL0.out HM.out.1 HM.out.2.1).mono ?_
        rintro e w5 ⟨g5, rfl, X_11, HD_11, B_11⟩
        clear q_10
        clear HD_6
        have ZZ12 : Hid (w4.heap.size ≤ w5.heap.size) := B_11.out.size
        have W0_12 : Hid (BagIn w1.heap.size w4.heap.size w5 a4 LL) := W0_9.out.below B_11.out (by have y0 := ZZ1.out; have y1 := ZZ7.out; have y2 := ZZ8.out; have y3 := ZZ12.out; omega)
        clear W0_9
        have X0_13 : Hid (BagOwn w4.heap.size w5.heap.size w5 (some ⟨g5, 0, none⟩) l0) := X_11.out
        clear X_11 B_11
        have BA_14 : Hid (Below w5.heap.size w5 (w5.alloc (.cells #[.slice (some ⟨g5, 0, none⟩) n0 n0] 26))) := below1' w5 _
        have HD_15 : Hid (Held w (w5.alloc (.cells #[.slice (some ⟨g5, 0, none⟩) n0 n0] 26)) [(w5.heap.size, .slice (some ⟨g5, 0, none⟩) n0 n0), (P4, .slice a4 n4 cap4), (w.heap.size + 1, .slice a1 n1 cap1), (w.heap.size, .slice a0 n0 cap0)]) := HD_11.out.more _ _
        clear HD_11
        have ZZ16 : Hid ((w5.alloc (.cells #[.slice (some ⟨g5, 0, none⟩) n0 n0] 26)).heap.size = w5.heap.size + 1) := by show _ = _; simp
        have ZZ17 : Hid (w5.heap.size ≤ (w5.alloc (.cells #[.slice (some ⟨g5, 0, none⟩) n0 n0] 26)).heap.size) := BA_14.out.size
        have W0_17 : Hid (BagIn w1.heap.size w4.heap.size (w5.alloc (.cells #[.slice (some ⟨g5, 0, none⟩) n0 n0] 26)) a4 LL) := W0_12.out.below BA_14.out (by have y0 := ZZ1.out; have y1 := ZZ7.out; have y2 := ZZ8.out; have y3 := ZZ12.out; have y4 := ZZ16.out; have y5 := ZZ17.out; omega)
        have X0_17 : Hid (BagOwn w4.heap.size w5.heap.size (w5.alloc (.cells #[.slice (some ⟨g5, 0, none⟩) n0 n0] 26)) (some ⟨g5, 0, none⟩) l0) := X0_13.out.below BA_14.out (by have y0 := ZZ1.out; have y1 := ZZ7.out; have y2 := ZZ8.out; have y3 := ZZ12.out; have y4 := ZZ16.out; have y5 := ZZ17.out; omega)
        clear W0_12 X0_13
        clear BA_14
        have q_18 := HD_15.out.cell (b := w.heap.size + 1) (v := .slice a1 n1 cap1) (by simp)
        go_wp2_with fail
        refine (toB a1 n1 cap1 l1 HR1.out HD_15.out HL1.out HM1.out.1 HM1.out.2.1).mono ?_
        rintro e w6 ⟨g6, rfl, X_19, HD_19, B_19⟩
        clear q_18
        clear HD_15
        have ZZ20 : Hid ((w5.alloc (.cells #[.slice (some ⟨g5, 0, none⟩) n0 n0] 26)).heap.size ≤ w6.heap.size) := B_19.out.size
        have W0_20 : Hid (BagIn w1.heap.size w4.heap.size w6 a4 LL) := W0_17.out.below B_19.out (by have y0 := ZZ1.out; have y1 := ZZ7.out; have y2 := ZZ8.out; have y3 := ZZ12.out; have y4 := ZZ16.out; have y5 := ZZ17.out; have y6 := ZZ20.out; omega)
        have X0_20 : Hid (BagOwn w4.heap.size w5.heap.size w6 (some ⟨g5, 0, none⟩) l0) := X0_17.out.below B_19.out (by have y0 := ZZ1.out; have y1 := ZZ7.out; have y2 := ZZ8.out; have y3 := ZZ12.out; have y4 := ZZ16.out; have y5 := ZZ17.out; have y6 := ZZ20.out; omega)
        clear W0_17 X0_17
        have X1_21 : Hid (BagOwn (w5.alloc (.cells #[.slice (some ⟨g5, 0, none⟩) n0 n0] 26)).heap.size w6.heap.size w6 (some ⟨g6, 0, none⟩) l1) := X_19.out
        clear X_19 B_19
        have BA_22 : Hid (Below w6.heap.size w6 (w6.alloc (.cells #[.slice (some ⟨g6, 0, none⟩) n1 n1] 26))) := below1' w6 _
        have HD_23 : Hid (Held w (w6.alloc (.cells #[.slice (some ⟨g6, 0, none⟩) n1 n1] 26)) [(w6.heap.size, .slice (some ⟨g6, 0, none⟩) n1 n1), (w5.heap.size, .slice (some ⟨g5, 0, none⟩) n0 n0), (P4, .slice a4 n4 cap4), (w.heap.size + 1, .slice a1 n1 cap1), (w.heap.size, .slice a0 n0 cap0)]) := HD_19.out.more _ _
        clear HD_19
        have ZZ24 : Hid ((w6.alloc (.cells #[.slice (some ⟨g6, 0, none⟩) n1 n1] 26)).heap.size = w6.heap.size + 1) := by show _ = _; simp
        have ZZ25 : Hid (w6.heap.size ≤ (w6.alloc (.cells #[.slice (some ⟨g6, 0, none⟩) n1 n1] 26)).heap.size) := BA_22.out.size
        have W0_25 : Hid (BagIn w1.heap.size w4.heap.size (w6.alloc (.cells #[.slice (some ⟨g6, 0, none⟩) n1 n1] 26)) a4 LL) := W0_20.out.below BA_22.out (by have y0 := ZZ1.out; have y1 := ZZ7.out; have y2 := ZZ8.out; have y3 := ZZ12.out; have y4 := ZZ16.out; have y5 := ZZ17.out; have y6 := ZZ20.out; have y7 := ZZ24.out; have y8 := ZZ25.out; omega)
        have X0_25 : Hid (BagOwn w4.heap.size w5.heap.size (w6.alloc (.cells #[.slice (some ⟨g6, 0, none⟩) n1 n1] 26)) (some ⟨g5, 0, none⟩) l0) := X0_20.out.below BA_22.out (by have y0 := ZZ1.out; have y1 := ZZ7.out; have y2 := ZZ8.out; have y3 := ZZ12.out; have y4 := ZZ16.out; have y5 := ZZ17.out; have y6 := ZZ20.out; have y7 := ZZ24.out; have y8 := ZZ25.out; omega)
        have X1_25 : Hid (BagOwn (w5.alloc (.cells #[.slice (some ⟨g5, 0, none⟩) n0 n0] 26)).heap.size w6.heap.size (w6.alloc (.cells #[.slice (some ⟨g6, 0, none⟩) n1 n1] 26)) (some ⟨g6, 0, none⟩) l1) := X1_21.out.below BA_22.out (by have y0 := ZZ1.out; have y1 := ZZ7.out; have y2 := ZZ8.out; have y3 := ZZ12.out; have y4 := ZZ16.out; have y5 := ZZ17.out; have y6 := ZZ20.out; have y7 := ZZ24.out; have y8 := ZZ25.out; omega)
        clear W0_20 X0_20 X1_21
        clear BA_22
        have q_26 := HD_23.out.cell (b := w5.heap.size) (v := .slice (some ⟨g5, 0, none⟩) n0 n0) (by simp)
        have q_27 := HD_23.out.cell (b := w6.heap.size) (v := .slice (some ⟨g6, 0, none⟩) n1 n1) (by simp)
        go_wp2_with fail
        refine (bagJoin_any w4.heap.size w5.heap.size (w5.alloc (.cells #[.slice (some ⟨g5, 0, none⟩) n0 n0] 26)).heap.size w6.heap.size (some ⟨g5, 0, none⟩) (some ⟨g6, 0, none⟩) n0 n0 n1 n1 l0 l1 _ X0_25.out.toIn X1_25.out.toIn (by have y0 := ZZ1.out; have y1 := ZZ7.out; have y2 := ZZ8.out; have y3 := ZZ12.out; have y4 := ZZ16.out; have y5 := ZZ17.out; have y6 := ZZ20.out; have y7 := ZZ24.out; have y8 := ZZ25.out; omega) (by have y0 := ZZ1.out; have y1 := ZZ7.out; have y2 := ZZ8.out; have y3 := ZZ12.out; have y4 := ZZ16.out; have y5 := ZZ17.out; have y6 := ZZ20.out; have y7 := ZZ24.out; have y8 := ZZ25.out; omega) HL0.out HL1.out HM.out.1 HM1.out.1 HM.out.2.1 HM1.out.2.1).mono ?_
        rintro e w7 ⟨a7, n7, cap7, ok7, rfl, HOK7, HN7, X7, B7⟩
        rw [← HLL.out] at HN7 X7
        clear q_26 q_27
        have HD_28 : Hid (Held w w7 [(w6.heap.size, .slice (some ⟨g6, 0, none⟩) n1 n1), (w5.heap.size, .slice (some ⟨g5, 0, none⟩) n0 n0), (P4, .slice a4 n4 cap4), (w.heap.size + 1, .slice a1 n1 cap1), (w.heap.size, .slice a0 n0 cap0)]) := HD_23.out.below B7.out
        clear HD_23
        have ZZ29 : Hid ((w6.alloc (.cells #[.slice (some ⟨g6, 0, none⟩) n1 n1] 26)).heap.size ≤ w7.heap.size) := B7.out.size
        have W0_29 : Hid (BagIn w1.heap.size w4.heap.size w7 a4 LL) := W0_25.out.below B7.out (by have y0 := ZZ1.out; have y1 := ZZ7.out; have y2 := ZZ8.out; have y3 := ZZ12.out; have y4 := ZZ16.out; have y5 := ZZ17.out; have y6 := ZZ20.out; have y7 := ZZ24.out; have y8 := ZZ25.out; have y9 := ZZ29.out; omega)
        have X0_29 : Hid (BagOwn w4.heap.size w5.heap.size w7 (some ⟨g5, 0, none⟩) l0) := X0_25.out.below B7.out (by have y0 := ZZ1.out; have y1 := ZZ7.out; have y2 := ZZ8.out; have y3 := ZZ12.out; have y4 := ZZ16.out; have y5 := ZZ17.out; have y6 := ZZ20.out; have y7 := ZZ24.out; have y8 := ZZ25.out; have y9 := ZZ29.out; omega)
        have X1_29 : Hid (BagOwn (w5.alloc (.cells #[.slice (some ⟨g5, 0, none⟩) n0 n0] 26)).heap.size w6.heap.size w7 (some ⟨g6, 0, none⟩) l1) := X1_25.out.below B7.out (by have y0 := ZZ1.out; have y1 := ZZ7.out; have y2 := ZZ8.out; have y3 := ZZ12.out; have y4 := ZZ16.out; have y5 := ZZ17.out; have y6 := ZZ20.out; have y7 := ZZ24.out; have y8 := ZZ25.out; have y9 := ZZ29.out; omega)
        clear W0_25 X0_25 X1_25
        have G0_30 : Hid (BagOwn (w6.alloc (.cells #[.slice (some ⟨g6, 0, none⟩) n1 n1] 26)).heap.size w7.heap.size w7 a7 LL) := X7.out
        clear X7 B7
        obtain rfl : n4 = n7 := by rw [← HN7.out, HN4.out]
        obtain rfl : ok4 = ok7 := by rw [HOK7.out, HOK4.out]
        clear HN7 HOK7
        have BA_31 : Hid (Below w7.heap.size w7 (w7.alloc (.cells #[.slice a7 n4 cap7] 26))) := below1' w7 _
        have HD_32 : Hid (Held w (w7.alloc (.cells #[.slice a7 n4 cap7] 26)) [(w7.heap.size, .slice a7 n4 cap7), (w6.heap.size, .slice (some ⟨g6, 0, none⟩) n1 n1), (w5.heap.size, .slice (some ⟨g5, 0, none⟩) n0 n0), (P4, .slice a4 n4 cap4), (w.heap.size + 1, .slice a1 n1 cap1), (w.heap.size, .slice a0 n0 cap0)]) := HD_28.out.more _ _
        clear HD_28
        have ZZ33 : Hid ((w7.alloc (.cells #[.slice a7 n4 cap7] 26)).heap.size = w7.heap.size + 1) := by show _ = _; simp
        have ZZ34 : Hid (w7.heap.size ≤ (w7.alloc (.cells #[.slice a7 n4 cap7] 26)).heap.size) := BA_31.out.size
        have W0_34 : Hid (BagIn w1.heap.size w4.heap.size (w7.alloc (.cells #[.slice a7 n4 cap7] 26)) a4 LL) := W0_29.out.below BA_31.out (by have y0 := ZZ1.out; have y1 := ZZ7.out; have y2 := ZZ8.out; have y3 := ZZ12.out; have y4 := ZZ16.out; have y5 := ZZ17.out; have y6 := ZZ20.out; have y7 := ZZ24.out; have y8 := ZZ25.out; have y9 := ZZ29.out; have y10 := ZZ33.out; have y11 := ZZ34.out; omega)
        have X0_34 : Hid (BagOwn w4.heap.size w5.heap.size (w7.alloc (.cells #[.slice a7 n4 cap7] 26)) (some ⟨g5, 0, none⟩) l0) := X0_29.out.below BA_31.out (by have y0 := ZZ1.out; have y1 := ZZ7.out; have y2 := ZZ8.out; have y3 := ZZ12.out; have y4 := ZZ16.out; have y5 := ZZ17.out; have y6 := ZZ20.out; have y7 := ZZ24.out; have y8 := ZZ25.out; have y9 := ZZ29.out; have y10 := ZZ33.out; have y11 := ZZ34.out; omega)
        have X1_34 : Hid (BagOwn (w5.alloc (.cells #[.slice (some ⟨g5, 0, none⟩) n0 n0] 26)).heap.size w6.heap.size (w7.alloc (.cells #[.slice a7 n4 cap7] 26)) (some ⟨g6, 0, none⟩) l1) := X1_29.out.below BA_31.out (by have y0 := ZZ1.out; have y1 := ZZ7.out; have y2 := ZZ8.out; have y3 := ZZ12.out; have y4 := ZZ16.out; have y5 := ZZ17.out; have y6 := ZZ20.out; have y7 := ZZ24.out; have y8 := ZZ25.out; have y9 := ZZ29.out; have y10 := ZZ33.out; have y11 := ZZ34.out; omega)
        have G0_34 : Hid (BagOwn (w6.alloc (.cells #[.slice (some ⟨g6, 0, none⟩) n1 n1] 26)).heap.size w7.heap.size (w7.alloc (.cells #[.slice a7 n4 cap7] 26)) a7 LL) := G0_30.out.below BA_31.out (by have y0 := ZZ1.out; have y1 := ZZ7.out; have y2 := ZZ8.out; have y3 := ZZ12.out; have y4 := ZZ16.out; have y5 := ZZ17.out; have y6 := ZZ20.out; have y7 := ZZ24.out; have y8 := ZZ25.out; have y9 := ZZ29.out; have y10 := ZZ33.out; have y11 := ZZ34.out; omega)
        clear W0_29 X0_29 X1_29 G0_30
        clear BA_31
        have q_35 := HD_32.out.cell (b := P4) (v := .slice a4 n4 cap4) (by simp)
        go_wp2_with fail
        refine (eqH (w := w) (bx := [(w7.heap.size, .slice a7 n4 cap7), (w6.heap.size, .slice (some ⟨g6, 0, none⟩) n1 n1), (w5.heap.size, .slice (some ⟨g5, 0, none⟩) n0 n0), (P4, .slice a4 n4 cap4), (w.heap.size + 1, .slice a1 n1 cap1), (w.heap.size, .slice a0 n0 cap0)]) (lo := (w6.alloc (.cells #[.slice (some ⟨g6, 0, none⟩) n1 n1] 26)).heap.size) (hi := w7.heap.size) (lo' := w1.heap.size) (hi' := w4.heap.size) a7 a4 n4 cap7 cap4 LL HD_32.out G0_34.out.toIn W0_34.out (by have y0 := ZZ1.out; have y1 := ZZ7.out; have y2 := ZZ8.out; have y3 := ZZ12.out; have y4 := ZZ16.out; have y5 := ZZ17.out; have y6 := ZZ20.out; have y7 := ZZ24.out; have y8 := ZZ25.out; have y9 := ZZ29.out; have y10 := ZZ33.out; have y11 := ZZ34.out; omega) (by have y0 := ZZ1.out; have y1 := ZZ7.out; have y2 := ZZ8.out; have y3 := ZZ12.out; have y4 := ZZ16.out; have y5 := ZZ17.out; have y6 := ZZ20.out; have y7 := ZZ24.out; have y8 := ZZ25.out; have y9 := ZZ29.out; have y10 := ZZ33.out; have y11 := ZZ34.out; omega) HN4.out HE.out.1 HE.out.2.1).mono ?_
        rintro e w8 ⟨rfl, HD_36, B_36⟩
        clear q_35
        clear HD_32
        have ZZ37 : Hid ((w7.alloc (.cells #[.slice a7 n4 cap7] 26)).heap.size ≤ w8.heap.size) := B_36.out.size
        have W0_37 : Hid (BagIn w1.heap.size w4.heap.size w8 a4 LL) := W0_34.out.below B_36.out (by have y0 := ZZ1.out; have y1 := ZZ7.out; have y2 := ZZ8.out; have y3 := ZZ12.out; have y4 := ZZ16.out; have y5 := ZZ17.out; have y6 := ZZ20.out; have y7 := ZZ24.out; have y8 := ZZ25.out; have y9 := ZZ29.out; have y10 := ZZ33.out; have y11 := ZZ34.out; have y12 := ZZ37.out; omega)
        have X0_37 : Hid (BagOwn w4.heap.size w5.heap.size w8 (some ⟨g5, 0, none⟩) l0) := X0_34.out.below B_36.out (by have y0 := ZZ1.out; have y1 := ZZ7.out; have y2 := ZZ8.out; have y3 := ZZ12.out; have y4 := ZZ16.out; have y5 := ZZ17.out; have y6 := ZZ20.out; have y7 := ZZ24.out; have y8 := ZZ25.out; have y9 := ZZ29.out; have y10 := ZZ33.out; have y11 := ZZ34.out; have y12 := ZZ37.out; omega)
        have X1_37 : Hid (BagOwn (w5.alloc (.cells #[.slice (some ⟨g5, 0, none⟩) n0 n0] 26)).heap.size w6.heap.size w8 (some ⟨g6, 0, none⟩) l1) := X1_34.out.below B_36.out (by have y0 := ZZ1.out; have y1 := ZZ7.out; have y2 := ZZ8.out; have y3 := ZZ12.out; have y4 := ZZ16.out; have y5 := ZZ17.out; have y6 := ZZ20.out; have y7 := ZZ24.out; have y8 := ZZ25.out; have y9 := ZZ29.out; have y10 := ZZ33.out; have y11 := ZZ34.out; have y12 := ZZ37.out; omega)
        have G0_37 : Hid (BagOwn (w6.alloc (.cells #[.slice (some ⟨g6, 0, none⟩) n1 n1] 26)).heap.size w7.heap.size w8 a7 LL) := G0_34.out.below B_36.out (by have y0 := ZZ1.out; have y1 := ZZ7.out; have y2 := ZZ8.out; have y3 := ZZ12.out; have y4 := ZZ16.out; have y5 := ZZ17.out; have y6 := ZZ20.out; have y7 := ZZ24.out; have y8 := ZZ25.out; have y9 := ZZ29.out; have y10 := ZZ33.out; have y11 := ZZ34.out; have y12 := ZZ37.out; omega)
        clear W0_34 X0_34 X1_34 G0_34
        clear B_36
        have q_38 := HD_36.out.cell (b := w5.heap.size) (v := .slice (some ⟨g5, 0, none⟩) n0 n0) (by simp)
        have q_39 := HD_36.out.cell (b := w.heap.size) (v := .slice a0 n0 cap0) (by simp)
        have HC1 : Hid (∀ w0, Below w8.heap.size w8 w0 → Calls Try.prog 42 #[.agg #[.slice a0 n0 cap0]] w0 fun e w' => ∃ g : Nat, e = .returned (.agg #[.slice (some ⟨g, 0, none⟩) n0 n0]) ∧ Hid (BagIn w8.heap.size w'.heap.size w' (some ⟨g, 0, none⟩) l0) ∧ Hid (Below w8.heap.size w8 w') ∧ (w'.cell? ⟨w5.heap.size, 0, none⟩ = some (.slice (some ⟨g5, 0, none⟩) n0 n0) ∧ w'.cell? ⟨w.heap.size, 0, none⟩ = some (.slice a0 n0 cap0))) := fun w0 h =>
          (toB a0 n0 cap0 l0 HR0.out (HD_36.out.below h) HL0.out HM.out.1 HM.out.2.1).mono fun _ _ ⟨g, h1, h2, h3, h4⟩ =>
            ⟨g, h1, h2.out.toIn.wide h.size (Nat.le_refl _), h.trans (h4.out.mono h.size), h3.out.cell (by simp), h3.out.cell (by simp)⟩
        have HC2 : Hid (∀ (g : Nat) w0, Below w8.heap.size w8 w0 → BagIn w8.heap.size w0.heap.size w0 (some ⟨g, 0, none⟩) l0 → Calls Try.prog 43 #[.agg #[.slice (some ⟨g5, 0, none⟩) n0 n0], .agg #[.slice (some ⟨g, 0, none⟩) n0 n0]] w0 fun e w' => e = .returned (.bool true) ∧ Hid (Below w8.heap.size w8 w') ∧ (w'.cell? ⟨w5.heap.size, 0, none⟩ = some (.slice (some ⟨g5, 0, none⟩) n0 n0) ∧ w'.cell? ⟨w.heap.size, 0, none⟩ = some (.slice a0 n0 cap0))) := fun g w0 h hx =>
          (eqH (w := w) (bx := [(w7.heap.size, .slice a7 n4 cap7), (w6.heap.size, .slice (some ⟨g6, 0, none⟩) n1 n1), (w5.heap.size, .slice (some ⟨g5, 0, none⟩) n0 n0), (P4, .slice a4 n4 cap4), (w.heap.size + 1, .slice a1 n1 cap1), (w.heap.size, .slice a0 n0 cap0)]) (lo := w4.heap.size) (hi := w5.heap.size) (lo' := w8.heap.size) (hi' := w0.heap.size) (some ⟨g5, 0, none⟩) (some ⟨g, 0, none⟩) n0 n0 n0 l0 (HD_36.out.below h) (X0_37.out.toIn.below h (by have y0 := ZZ1.out; have y1 := ZZ7.out; have y2 := ZZ8.out; have y3 := ZZ12.out; have y4 := ZZ16.out; have y5 := ZZ17.out; have y6 := ZZ20.out; have y7 := ZZ24.out; have y8 := ZZ25.out; have y9 := ZZ29.out; have y10 := ZZ33.out; have y11 := ZZ34.out; have y12 := ZZ37.out; omega)) hx (by have yy := h.size; have y0 := ZZ1.out; have y1 := ZZ7.out; have y2 := ZZ8.out; have y3 := ZZ12.out; have y4 := ZZ16.out; have y5 := ZZ17.out; have y6 := ZZ20.out; have y7 := ZZ24.out; have y8 := ZZ25.out; have y9 := ZZ29.out; have y10 := ZZ33.out; have y11 := ZZ34.out; have y12 := ZZ37.out; omega) (Nat.le_refl _) HL0.out HM.out.1 HM.out.2.1).mono fun _ _ ⟨h1, h2, h3⟩ =>
            ⟨h1, h.trans (h3.out.mono h.size), h2.out.cell (by simp), h2.out.cell (by simp)⟩
        go_wp2_with fail
        go_region_held (fun w' => w'.cell? ⟨w5.heap.size, 0, none⟩ = some (.slice (some ⟨g5, 0, none⟩) n0 n0) ∧ w'.cell? ⟨w.heap.size, 0, none⟩ = some (.slice a0 n0 cap0)) (first | exact ⟨q_38, q_39⟩ | exact hk9 | exact hk10) (first | (go_at_call 42; refine (HC1.out _ ((Below.refl _ _).drew)).mono ?_; rintro e wax ⟨g9, rfl, X9, B9, hk9⟩) | (go_at_call 43; refine (HC2.out _ _ B9.out X9.out).mono ?_; rintro e w10 ⟨rfl, B10, hk10⟩))
        clear q_38 q_39
        clear hk9 hk10 B9 X9 HC1 HC2
        have HD_40 : Hid (Held w w10 [(w7.heap.size, .slice a7 n4 cap7), (w6.heap.size, .slice (some ⟨g6, 0, none⟩) n1 n1), (w5.heap.size, .slice (some ⟨g5, 0, none⟩) n0 n0), (P4, .slice a4 n4 cap4), (w.heap.size + 1, .slice a1 n1 cap1), (w.heap.size, .slice a0 n0 cap0)]) := HD_36.out.below B10.out
        clear HD_36
        have ZZ41 : Hid (w8.heap.size ≤ w10.heap.size) := B10.out.size
        have W0_41 : Hid (BagIn w1.heap.size w4.heap.size w10 a4 LL) := W0_37.out.below B10.out (by have y0 := ZZ1.out; have y1 := ZZ7.out; have y2 := ZZ8.out; have y3 := ZZ12.out; have y4 := ZZ16.out; have y5 := ZZ17.out; have y6 := ZZ20.out; have y7 := ZZ24.out; have y8 := ZZ25.out; have y9 := ZZ29.out; have y10 := ZZ33.out; have y11 := ZZ34.out; have y12 := ZZ37.out; have y13 := ZZ41.out; omega)
        have X0_41 : Hid (BagOwn w4.heap.size w5.heap.size w10 (some ⟨g5, 0, none⟩) l0) := X0_37.out.below B10.out (by have y0 := ZZ1.out; have y1 := ZZ7.out; have y2 := ZZ8.out; have y3 := ZZ12.out; have y4 := ZZ16.out; have y5 := ZZ17.out; have y6 := ZZ20.out; have y7 := ZZ24.out; have y8 := ZZ25.out; have y9 := ZZ29.out; have y10 := ZZ33.out; have y11 := ZZ34.out; have y12 := ZZ37.out; have y13 := ZZ41.out; omega)
        have X1_41 : Hid (BagOwn (w5.alloc (.cells #[.slice (some ⟨g5, 0, none⟩) n0 n0] 26)).heap.size w6.heap.size w10 (some ⟨g6, 0, none⟩) l1) := X1_37.out.below B10.out (by have y0 := ZZ1.out; have y1 := ZZ7.out; have y2 := ZZ8.out; have y3 := ZZ12.out; have y4 := ZZ16.out; have y5 := ZZ17.out; have y6 := ZZ20.out; have y7 := ZZ24.out; have y8 := ZZ25.out; have y9 := ZZ29.out; have y10 := ZZ33.out; have y11 := ZZ34.out; have y12 := ZZ37.out; have y13 := ZZ41.out; omega)
        have G0_41 : Hid (BagOwn (w6.alloc (.cells #[.slice (some ⟨g6, 0, none⟩) n1 n1] 26)).heap.size w7.heap.size w10 a7 LL) := G0_37.out.below B10.out (by have y0 := ZZ1.out; have y1 := ZZ7.out; have y2 := ZZ8.out; have y3 := ZZ12.out; have y4 := ZZ16.out; have y5 := ZZ17.out; have y6 := ZZ20.out; have y7 := ZZ24.out; have y8 := ZZ25.out; have y9 := ZZ29.out; have y10 := ZZ33.out; have y11 := ZZ34.out; have y12 := ZZ37.out; have y13 := ZZ41.out; omega)
        clear W0_37 X0_37 X1_37 G0_37
        clear B10
        have q_42 := HD_40.out.cell (b := w6.heap.size) (v := .slice (some ⟨g6, 0, none⟩) n1 n1) (by simp)
        have q_43 := HD_40.out.cell (b := w.heap.size + 1) (v := .slice a1 n1 cap1) (by simp)
        have HC1 : Hid (∀ w0, Below w10.heap.size w10 w0 → Calls Try.prog 42 #[.agg #[.slice a1 n1 cap1]] w0 fun e w' => ∃ g : Nat, e = .returned (.agg #[.slice (some ⟨g, 0, none⟩) n1 n1]) ∧ Hid (BagIn w10.heap.size w'.heap.size w' (some ⟨g, 0, none⟩) l1) ∧ Hid (Below w10.heap.size w10 w') ∧ (w'.cell? ⟨w6.heap.size, 0, none⟩ = some (.slice (some ⟨g6, 0, none⟩) n1 n1) ∧ w'.cell? ⟨w.heap.size + 1, 0, none⟩ = some (.slice a1 n1 cap1))) := fun w0 h =>
          (toB a1 n1 cap1 l1 HR1.out (HD_40.out.below h) HL1.out HM1.out.1 HM1.out.2.1).mono fun _ _ ⟨g, h1, h2, h3, h4⟩ =>
            ⟨g, h1, h2.out.toIn.wide h.size (Nat.le_refl _), h.trans (h4.out.mono h.size), h3.out.cell (by simp), h3.out.cell (by simp)⟩
        have HC2 : Hid (∀ (g : Nat) w0, Below w10.heap.size w10 w0 → BagIn w10.heap.size w0.heap.size w0 (some ⟨g, 0, none⟩) l1 → Calls Try.prog 43 #[.agg #[.slice (some ⟨g6, 0, none⟩) n1 n1], .agg #[.slice (some ⟨g, 0, none⟩) n1 n1]] w0 fun e w' => e = .returned (.bool true) ∧ Hid (Below w10.heap.size w10 w') ∧ (w'.cell? ⟨w6.heap.size, 0, none⟩ = some (.slice (some ⟨g6, 0, none⟩) n1 n1) ∧ w'.cell? ⟨w.heap.size + 1, 0, none⟩ = some (.slice a1 n1 cap1))) := fun g w0 h hx =>
          (eqH (w := w) (bx := [(w7.heap.size, .slice a7 n4 cap7), (w6.heap.size, .slice (some ⟨g6, 0, none⟩) n1 n1), (w5.heap.size, .slice (some ⟨g5, 0, none⟩) n0 n0), (P4, .slice a4 n4 cap4), (w.heap.size + 1, .slice a1 n1 cap1), (w.heap.size, .slice a0 n0 cap0)]) (lo := (w5.alloc (.cells #[.slice (some ⟨g5, 0, none⟩) n0 n0] 26)).heap.size) (hi := w6.heap.size) (lo' := w10.heap.size) (hi' := w0.heap.size) (some ⟨g6, 0, none⟩) (some ⟨g, 0, none⟩) n1 n1 n1 l1 (HD_40.out.below h) (X1_41.out.toIn.below h (by have y0 := ZZ1.out; have y1 := ZZ7.out; have y2 := ZZ8.out; have y3 := ZZ12.out; have y4 := ZZ16.out; have y5 := ZZ17.out; have y6 := ZZ20.out; have y7 := ZZ24.out; have y8 := ZZ25.out; have y9 := ZZ29.out; have y10 := ZZ33.out; have y11 := ZZ34.out; have y12 := ZZ37.out; have y13 := ZZ41.out; omega)) hx (by have yy := h.size; have y0 := ZZ1.out; have y1 := ZZ7.out; have y2 := ZZ8.out; have y3 := ZZ12.out; have y4 := ZZ16.out; have y5 := ZZ17.out; have y6 := ZZ20.out; have y7 := ZZ24.out; have y8 := ZZ25.out; have y9 := ZZ29.out; have y10 := ZZ33.out; have y11 := ZZ34.out; have y12 := ZZ37.out; have y13 := ZZ41.out; omega) (Nat.le_refl _) HL1.out HM1.out.1 HM1.out.2.1).mono fun _ _ ⟨h1, h2, h3⟩ =>
            ⟨h1, h.trans (h3.out.mono h.size), h2.out.cell (by simp), h2.out.cell (by simp)⟩
        go_wp2_with fail
        go_region_held (fun w' => w'.cell? ⟨w6.heap.size, 0, none⟩ = some (.slice (some ⟨g6, 0, none⟩) n1 n1) ∧ w'.cell? ⟨w.heap.size + 1, 0, none⟩ = some (.slice a1 n1 cap1)) (first | exact ⟨q_42, q_43⟩ | exact hk9 | exact hk10) (first | (go_at_call 42; refine (HC1.out _ ((Below.refl _ _).drew)).mono ?_; rintro e wbx ⟨g9, rfl, X9, B9, hk9⟩) | (go_at_call 43; refine (HC2.out _ _ B9.out X9.out).mono ?_; rintro e w12 ⟨rfl, B10, hk10⟩))
        clear q_42 q_43
        clear hk9 hk10 B9 X9 HC1 HC2
        have HD_44 : Hid (Held w w12 [(w7.heap.size, .slice a7 n4 cap7), (w6.heap.size, .slice (some ⟨g6, 0, none⟩) n1 n1), (w5.heap.size, .slice (some ⟨g5, 0, none⟩) n0 n0), (P4, .slice a4 n4 cap4), (w.heap.size + 1, .slice a1 n1 cap1), (w.heap.size, .slice a0 n0 cap0)]) := HD_40.out.below B10.out
        clear HD_40
        have ZZ45 : Hid (w10.heap.size ≤ w12.heap.size) := B10.out.size
        have W0_45 : Hid (BagIn w1.heap.size w4.heap.size w12 a4 LL) := W0_41.out.below B10.out (by have y0 := ZZ1.out; have y1 := ZZ7.out; have y2 := ZZ8.out; have y3 := ZZ12.out; have y4 := ZZ16.out; have y5 := ZZ17.out; have y6 := ZZ20.out; have y7 := ZZ24.out; have y8 := ZZ25.out; have y9 := ZZ29.out; have y10 := ZZ33.out; have y11 := ZZ34.out; have y12 := ZZ37.out; have y13 := ZZ41.out; have y14 := ZZ45.out; omega)
        have X0_45 : Hid (BagOwn w4.heap.size w5.heap.size w12 (some ⟨g5, 0, none⟩) l0) := X0_41.out.below B10.out (by have y0 := ZZ1.out; have y1 := ZZ7.out; have y2 := ZZ8.out; have y3 := ZZ12.out; have y4 := ZZ16.out; have y5 := ZZ17.out; have y6 := ZZ20.out; have y7 := ZZ24.out; have y8 := ZZ25.out; have y9 := ZZ29.out; have y10 := ZZ33.out; have y11 := ZZ34.out; have y12 := ZZ37.out; have y13 := ZZ41.out; have y14 := ZZ45.out; omega)
        have X1_45 : Hid (BagOwn (w5.alloc (.cells #[.slice (some ⟨g5, 0, none⟩) n0 n0] 26)).heap.size w6.heap.size w12 (some ⟨g6, 0, none⟩) l1) := X1_41.out.below B10.out (by have y0 := ZZ1.out; have y1 := ZZ7.out; have y2 := ZZ8.out; have y3 := ZZ12.out; have y4 := ZZ16.out; have y5 := ZZ17.out; have y6 := ZZ20.out; have y7 := ZZ24.out; have y8 := ZZ25.out; have y9 := ZZ29.out; have y10 := ZZ33.out; have y11 := ZZ34.out; have y12 := ZZ37.out; have y13 := ZZ41.out; have y14 := ZZ45.out; omega)
        have G0_45 : Hid (BagOwn (w6.alloc (.cells #[.slice (some ⟨g6, 0, none⟩) n1 n1] 26)).heap.size w7.heap.size w12 a7 LL) := G0_41.out.below B10.out (by have y0 := ZZ1.out; have y1 := ZZ7.out; have y2 := ZZ8.out; have y3 := ZZ12.out; have y4 := ZZ16.out; have y5 := ZZ17.out; have y6 := ZZ20.out; have y7 := ZZ24.out; have y8 := ZZ25.out; have y9 := ZZ29.out; have y10 := ZZ33.out; have y11 := ZZ34.out; have y12 := ZZ37.out; have y13 := ZZ41.out; have y14 := ZZ45.out; omega)
        clear W0_41 X0_41 X1_41 G0_41
        clear B10
        have q_46 := HD_44.out.cell (b := w5.heap.size) (v := .slice (some ⟨g5, 0, none⟩) n0 n0) (by simp)
        go_wp2_with fail
        refine (markH (w := w) (bx := [(w7.heap.size, .slice a7 n4 cap7), (w6.heap.size, .slice (some ⟨g6, 0, none⟩) n1 n1), (w5.heap.size, .slice (some ⟨g5, 0, none⟩) n0 n0), (P4, .slice a4 n4 cap4), (w.heap.size + 1, .slice a1 n1 cap1), (w.heap.size, .slice a0 n0 cap0)]) (lo := w4.heap.size) (hi := w5.heap.size) (some ⟨g5, 0, none⟩) n0 n0 1 l0 HD_44.out X0_45.out (by have y0 := ZZ1.out; have y1 := ZZ7.out; have y2 := ZZ8.out; have y3 := ZZ12.out; have y4 := ZZ16.out; have y5 := ZZ17.out; have y6 := ZZ20.out; have y7 := ZZ24.out; have y8 := ZZ25.out; have y9 := ZZ29.out; have y10 := ZZ33.out; have y11 := ZZ34.out; have y12 := ZZ37.out; have y13 := ZZ41.out; have y14 := ZZ45.out; omega) (by have y0 := ZZ1.out; have y1 := ZZ7.out; have y2 := ZZ8.out; have y3 := ZZ12.out; have y4 := ZZ16.out; have y5 := ZZ17.out; have y6 := ZZ20.out; have y7 := ZZ24.out; have y8 := ZZ25.out; have y9 := ZZ29.out; have y10 := ZZ33.out; have y11 := ZZ34.out; have y12 := ZZ37.out; have y13 := ZZ41.out; have y14 := ZZ45.out; omega) (by intro x hx; simp only [List.mem_cons, List.not_mem_nil, or_false] at hx; have y0 := ZZ1.out; have y1 := ZZ7.out; have y2 := ZZ8.out; have y3 := ZZ12.out; have y4 := ZZ16.out; have y5 := ZZ17.out; have y6 := ZZ20.out; have y7 := ZZ24.out; have y8 := ZZ25.out; have y9 := ZZ29.out; have y10 := ZZ33.out; have y11 := ZZ34.out; have y12 := ZZ37.out; have y13 := ZZ41.out; have y14 := ZZ45.out; rcases hx with rfl | rfl | rfl | rfl | rfl | rfl <;> dsimp only <;> omega) HL0.out HM.out.1 HM.out.2.2 (by omega)).mono ?_
        rintro e w13 ⟨m13, rfl, HM_47, XM_47, HD_47, KM_47⟩
        clear q_46
        clear HD_44
        have ZZ48 : Hid (w12.heap.size ≤ w13.heap.size) := KM_47.out.size
        have W0_48 : Hid (BagIn w1.heap.size w4.heap.size w13 a4 LL) := W0_45.out.kept KM_47.out (by have y0 := ZZ1.out; have y1 := ZZ7.out; have y2 := ZZ8.out; have y3 := ZZ12.out; have y4 := ZZ16.out; have y5 := ZZ17.out; have y6 := ZZ20.out; have y7 := ZZ24.out; have y8 := ZZ25.out; have y9 := ZZ29.out; have y10 := ZZ33.out; have y11 := ZZ34.out; have y12 := ZZ37.out; have y13 := ZZ41.out; have y14 := ZZ45.out; have y15 := ZZ48.out; omega) (fun c h1 h2 h3 => by have y0 := ZZ1.out; have y1 := ZZ7.out; have y2 := ZZ8.out; have y3 := ZZ12.out; have y4 := ZZ16.out; have y5 := ZZ17.out; have y6 := ZZ20.out; have y7 := ZZ24.out; have y8 := ZZ25.out; have y9 := ZZ29.out; have y10 := ZZ33.out; have y11 := ZZ34.out; have y12 := ZZ37.out; have y13 := ZZ41.out; have y14 := ZZ45.out; have y15 := ZZ48.out; omega)
        have X1_48 : Hid (BagOwn (w5.alloc (.cells #[.slice (some ⟨g5, 0, none⟩) n0 n0] 26)).heap.size w6.heap.size w13 (some ⟨g6, 0, none⟩) l1) := X1_45.out.kept KM_47.out (by have y0 := ZZ1.out; have y1 := ZZ7.out; have y2 := ZZ8.out; have y3 := ZZ12.out; have y4 := ZZ16.out; have y5 := ZZ17.out; have y6 := ZZ20.out; have y7 := ZZ24.out; have y8 := ZZ25.out; have y9 := ZZ29.out; have y10 := ZZ33.out; have y11 := ZZ34.out; have y12 := ZZ37.out; have y13 := ZZ41.out; have y14 := ZZ45.out; have y15 := ZZ48.out; omega) (fun c h1 h2 h3 => by have y0 := ZZ1.out; have y1 := ZZ7.out; have y2 := ZZ8.out; have y3 := ZZ12.out; have y4 := ZZ16.out; have y5 := ZZ17.out; have y6 := ZZ20.out; have y7 := ZZ24.out; have y8 := ZZ25.out; have y9 := ZZ29.out; have y10 := ZZ33.out; have y11 := ZZ34.out; have y12 := ZZ37.out; have y13 := ZZ41.out; have y14 := ZZ45.out; have y15 := ZZ48.out; omega)
        have G0_48 : Hid (BagOwn (w6.alloc (.cells #[.slice (some ⟨g6, 0, none⟩) n1 n1] 26)).heap.size w7.heap.size w13 a7 LL) := G0_45.out.kept KM_47.out (by have y0 := ZZ1.out; have y1 := ZZ7.out; have y2 := ZZ8.out; have y3 := ZZ12.out; have y4 := ZZ16.out; have y5 := ZZ17.out; have y6 := ZZ20.out; have y7 := ZZ24.out; have y8 := ZZ25.out; have y9 := ZZ29.out; have y10 := ZZ33.out; have y11 := ZZ34.out; have y12 := ZZ37.out; have y13 := ZZ41.out; have y14 := ZZ45.out; have y15 := ZZ48.out; omega) (fun c h1 h2 h3 => by have y0 := ZZ1.out; have y1 := ZZ7.out; have y2 := ZZ8.out; have y3 := ZZ12.out; have y4 := ZZ16.out; have y5 := ZZ17.out; have y6 := ZZ20.out; have y7 := ZZ24.out; have y8 := ZZ25.out; have y9 := ZZ29.out; have y10 := ZZ33.out; have y11 := ZZ34.out; have y12 := ZZ37.out; have y13 := ZZ41.out; have y14 := ZZ45.out; have y15 := ZZ48.out; omega)
        clear W0_45 X0_45 X1_45 G0_45
        clear KM_47
        clear XM_47
        have hm13 : m13 ≤ 2097153 := by rw [HM_47.out]; unfold pos; have := HM.out; omega
        have q_49 := HD_47.out.cell (b := w6.heap.size) (v := .slice (some ⟨g6, 0, none⟩) n1 n1) (by simp)
        go_wp2_with fail
        refine (markHB (w := w) (bx := [(w7.heap.size, .slice a7 n4 cap7), (w6.heap.size, .slice (some ⟨g6, 0, none⟩) n1 n1), (w5.heap.size, .slice (some ⟨g5, 0, none⟩) n0 n0), (P4, .slice a4 n4 cap4), (w.heap.size + 1, .slice a1 n1 cap1), (w.heap.size, .slice a0 n0 cap0)]) (lo := (w5.alloc (.cells #[.slice (some ⟨g5, 0, none⟩) n0 n0] 26)).heap.size) (hi := w6.heap.size) (some ⟨g6, 0, none⟩) n1 n1 m13 l1 HD_47.out X1_48.out (by have y0 := ZZ1.out; have y1 := ZZ7.out; have y2 := ZZ8.out; have y3 := ZZ12.out; have y4 := ZZ16.out; have y5 := ZZ17.out; have y6 := ZZ20.out; have y7 := ZZ24.out; have y8 := ZZ25.out; have y9 := ZZ29.out; have y10 := ZZ33.out; have y11 := ZZ34.out; have y12 := ZZ37.out; have y13 := ZZ41.out; have y14 := ZZ45.out; have y15 := ZZ48.out; omega) (by have y0 := ZZ1.out; have y1 := ZZ7.out; have y2 := ZZ8.out; have y3 := ZZ12.out; have y4 := ZZ16.out; have y5 := ZZ17.out; have y6 := ZZ20.out; have y7 := ZZ24.out; have y8 := ZZ25.out; have y9 := ZZ29.out; have y10 := ZZ33.out; have y11 := ZZ34.out; have y12 := ZZ37.out; have y13 := ZZ41.out; have y14 := ZZ45.out; have y15 := ZZ48.out; omega) (by intro x hx; simp only [List.mem_cons, List.not_mem_nil, or_false] at hx; have y0 := ZZ1.out; have y1 := ZZ7.out; have y2 := ZZ8.out; have y3 := ZZ12.out; have y4 := ZZ16.out; have y5 := ZZ17.out; have y6 := ZZ20.out; have y7 := ZZ24.out; have y8 := ZZ25.out; have y9 := ZZ29.out; have y10 := ZZ33.out; have y11 := ZZ34.out; have y12 := ZZ37.out; have y13 := ZZ41.out; have y14 := ZZ45.out; have y15 := ZZ48.out; rcases hx with rfl | rfl | rfl | rfl | rfl | rfl <;> dsimp only <;> omega) HL1.out HM1.out.1 HM1.out.2.2 (by omega)).mono ?_
        rintro e w14 ⟨m14, rfl, HM_50, XM_50, HD_50, KM_50⟩
        clear q_49
        clear HD_47
        have ZZ51 : Hid (w13.heap.size ≤ w14.heap.size) := KM_50.out.size
        have W0_51 : Hid (BagIn w1.heap.size w4.heap.size w14 a4 LL) := W0_48.out.kept KM_50.out (by have y0 := ZZ1.out; have y1 := ZZ7.out; have y2 := ZZ8.out; have y3 := ZZ12.out; have y4 := ZZ16.out; have y5 := ZZ17.out; have y6 := ZZ20.out; have y7 := ZZ24.out; have y8 := ZZ25.out; have y9 := ZZ29.out; have y10 := ZZ33.out; have y11 := ZZ34.out; have y12 := ZZ37.out; have y13 := ZZ41.out; have y14 := ZZ45.out; have y15 := ZZ48.out; have y16 := ZZ51.out; omega) (fun c h1 h2 h3 => by have y0 := ZZ1.out; have y1 := ZZ7.out; have y2 := ZZ8.out; have y3 := ZZ12.out; have y4 := ZZ16.out; have y5 := ZZ17.out; have y6 := ZZ20.out; have y7 := ZZ24.out; have y8 := ZZ25.out; have y9 := ZZ29.out; have y10 := ZZ33.out; have y11 := ZZ34.out; have y12 := ZZ37.out; have y13 := ZZ41.out; have y14 := ZZ45.out; have y15 := ZZ48.out; have y16 := ZZ51.out; omega)
        have G0_51 : Hid (BagOwn (w6.alloc (.cells #[.slice (some ⟨g6, 0, none⟩) n1 n1] 26)).heap.size w7.heap.size w14 a7 LL) := G0_48.out.kept KM_50.out (by have y0 := ZZ1.out; have y1 := ZZ7.out; have y2 := ZZ8.out; have y3 := ZZ12.out; have y4 := ZZ16.out; have y5 := ZZ17.out; have y6 := ZZ20.out; have y7 := ZZ24.out; have y8 := ZZ25.out; have y9 := ZZ29.out; have y10 := ZZ33.out; have y11 := ZZ34.out; have y12 := ZZ37.out; have y13 := ZZ41.out; have y14 := ZZ45.out; have y15 := ZZ48.out; have y16 := ZZ51.out; omega) (fun c h1 h2 h3 => by have y0 := ZZ1.out; have y1 := ZZ7.out; have y2 := ZZ8.out; have y3 := ZZ12.out; have y4 := ZZ16.out; have y5 := ZZ17.out; have y6 := ZZ20.out; have y7 := ZZ24.out; have y8 := ZZ25.out; have y9 := ZZ29.out; have y10 := ZZ33.out; have y11 := ZZ34.out; have y12 := ZZ37.out; have y13 := ZZ41.out; have y14 := ZZ45.out; have y15 := ZZ48.out; have y16 := ZZ51.out; omega)
        clear W0_48 X1_48 G0_48
        clear KM_50
        clear XM_50
        have hm14 : ¬ (((m14 : Nat) : Int) < 0) := by omega
        have q_52 := HD_50.out.cell (b := w7.heap.size) (v := .slice a7 n4 cap7) (by simp)
        have q_53 := HD_50.out.cell (b := P4) (v := .slice a4 n4 cap4) (by simp)
        go_wp2_with fail
        refine (eqH (w := w) (bx := [(w7.heap.size, .slice a7 n4 cap7), (w6.heap.size, .slice (some ⟨g6, 0, none⟩) n1 n1), (w5.heap.size, .slice (some ⟨g5, 0, none⟩) n0 n0), (P4, .slice a4 n4 cap4), (w.heap.size + 1, .slice a1 n1 cap1), (w.heap.size, .slice a0 n0 cap0)]) (lo := (w6.alloc (.cells #[.slice (some ⟨g6, 0, none⟩) n1 n1] 26)).heap.size) (hi := w7.heap.size) (lo' := w1.heap.size) (hi' := w4.heap.size) a7 a4 n4 cap7 cap4 LL HD_50.out G0_51.out.toIn W0_51.out (by have y0 := ZZ1.out; have y1 := ZZ7.out; have y2 := ZZ8.out; have y3 := ZZ12.out; have y4 := ZZ16.out; have y5 := ZZ17.out; have y6 := ZZ20.out; have y7 := ZZ24.out; have y8 := ZZ25.out; have y9 := ZZ29.out; have y10 := ZZ33.out; have y11 := ZZ34.out; have y12 := ZZ37.out; have y13 := ZZ41.out; have y14 := ZZ45.out; have y15 := ZZ48.out; have y16 := ZZ51.out; omega) (by have y0 := ZZ1.out; have y1 := ZZ7.out; have y2 := ZZ8.out; have y3 := ZZ12.out; have y4 := ZZ16.out; have y5 := ZZ17.out; have y6 := ZZ20.out; have y7 := ZZ24.out; have y8 := ZZ25.out; have y9 := ZZ29.out; have y10 := ZZ33.out; have y11 := ZZ34.out; have y12 := ZZ37.out; have y13 := ZZ41.out; have y14 := ZZ45.out; have y15 := ZZ48.out; have y16 := ZZ51.out; omega) HN4.out HE.out.1 HE.out.2.1).mono ?_
        rintro e w15 ⟨rfl, HD_54, B_54⟩
        clear q_52 q_53
        clear HD_50
        have ZZ55 : Hid (w14.heap.size ≤ w15.heap.size) := B_54.out.size
        have W0_55 : Hid (BagIn w1.heap.size w4.heap.size w15 a4 LL) := W0_51.out.below B_54.out (by have y0 := ZZ1.out; have y1 := ZZ7.out; have y2 := ZZ8.out; have y3 := ZZ12.out; have y4 := ZZ16.out; have y5 := ZZ17.out; have y6 := ZZ20.out; have y7 := ZZ24.out; have y8 := ZZ25.out; have y9 := ZZ29.out; have y10 := ZZ33.out; have y11 := ZZ34.out; have y12 := ZZ37.out; have y13 := ZZ41.out; have y14 := ZZ45.out; have y15 := ZZ48.out; have y16 := ZZ51.out; have y17 := ZZ55.out; omega)
        have G0_55 : Hid (BagOwn (w6.alloc (.cells #[.slice (some ⟨g6, 0, none⟩) n1 n1] 26)).heap.size w7.heap.size w15 a7 LL) := G0_51.out.below B_54.out (by have y0 := ZZ1.out; have y1 := ZZ7.out; have y2 := ZZ8.out; have y3 := ZZ12.out; have y4 := ZZ16.out; have y5 := ZZ17.out; have y6 := ZZ20.out; have y7 := ZZ24.out; have y8 := ZZ25.out; have y9 := ZZ29.out; have y10 := ZZ33.out; have y11 := ZZ34.out; have y12 := ZZ37.out; have y13 := ZZ41.out; have y14 := ZZ45.out; have y15 := ZZ48.out; have y16 := ZZ51.out; have y17 := ZZ55.out; omega)
        clear W0_51 G0_51
        clear B_54
        have q_56 := HD_54.out.cell (b := w7.heap.size) (v := .slice a7 n4 cap7) (by simp)
        go_wp2_with fail
        refine (markH (w := w) (bx := [(w7.heap.size, .slice a7 n4 cap7), (w6.heap.size, .slice (some ⟨g6, 0, none⟩) n1 n1), (w5.heap.size, .slice (some ⟨g5, 0, none⟩) n0 n0), (P4, .slice a4 n4 cap4), (w.heap.size + 1, .slice a1 n1 cap1), (w.heap.size, .slice a0 n0 cap0)]) (lo := (w6.alloc (.cells #[.slice (some ⟨g6, 0, none⟩) n1 n1] 26)).heap.size) (hi := w7.heap.size) a7 n4 cap7 1 LL HD_54.out G0_55.out (by have y0 := ZZ1.out; have y1 := ZZ7.out; have y2 := ZZ8.out; have y3 := ZZ12.out; have y4 := ZZ16.out; have y5 := ZZ17.out; have y6 := ZZ20.out; have y7 := ZZ24.out; have y8 := ZZ25.out; have y9 := ZZ29.out; have y10 := ZZ33.out; have y11 := ZZ34.out; have y12 := ZZ37.out; have y13 := ZZ41.out; have y14 := ZZ45.out; have y15 := ZZ48.out; have y16 := ZZ51.out; have y17 := ZZ55.out; omega) (by have y0 := ZZ1.out; have y1 := ZZ7.out; have y2 := ZZ8.out; have y3 := ZZ12.out; have y4 := ZZ16.out; have y5 := ZZ17.out; have y6 := ZZ20.out; have y7 := ZZ24.out; have y8 := ZZ25.out; have y9 := ZZ29.out; have y10 := ZZ33.out; have y11 := ZZ34.out; have y12 := ZZ37.out; have y13 := ZZ41.out; have y14 := ZZ45.out; have y15 := ZZ48.out; have y16 := ZZ51.out; have y17 := ZZ55.out; omega) (by intro x hx; simp only [List.mem_cons, List.not_mem_nil, or_false] at hx; have y0 := ZZ1.out; have y1 := ZZ7.out; have y2 := ZZ8.out; have y3 := ZZ12.out; have y4 := ZZ16.out; have y5 := ZZ17.out; have y6 := ZZ20.out; have y7 := ZZ24.out; have y8 := ZZ25.out; have y9 := ZZ29.out; have y10 := ZZ33.out; have y11 := ZZ34.out; have y12 := ZZ37.out; have y13 := ZZ41.out; have y14 := ZZ45.out; have y15 := ZZ48.out; have y16 := ZZ51.out; have y17 := ZZ55.out; rcases hx with rfl | rfl | rfl | rfl | rfl | rfl <;> dsimp only <;> omega) HN4.out HE.out.1 HE.out.2.2 (by omega)).mono ?_
        rintro e w16 ⟨m16, rfl, HM_57, XM_57, HD_57, KM_57⟩
        clear q_56
        clear HD_54
        have ZZ58 : Hid (w15.heap.size ≤ w16.heap.size) := KM_57.out.size
        have W0_58 : Hid (BagIn w1.heap.size w4.heap.size w16 a4 LL) := W0_55.out.kept KM_57.out (by have y0 := ZZ1.out; have y1 := ZZ7.out; have y2 := ZZ8.out; have y3 := ZZ12.out; have y4 := ZZ16.out; have y5 := ZZ17.out; have y6 := ZZ20.out; have y7 := ZZ24.out; have y8 := ZZ25.out; have y9 := ZZ29.out; have y10 := ZZ33.out; have y11 := ZZ34.out; have y12 := ZZ37.out; have y13 := ZZ41.out; have y14 := ZZ45.out; have y15 := ZZ48.out; have y16 := ZZ51.out; have y17 := ZZ55.out; have y18 := ZZ58.out; omega) (fun c h1 h2 h3 => by have y0 := ZZ1.out; have y1 := ZZ7.out; have y2 := ZZ8.out; have y3 := ZZ12.out; have y4 := ZZ16.out; have y5 := ZZ17.out; have y6 := ZZ20.out; have y7 := ZZ24.out; have y8 := ZZ25.out; have y9 := ZZ29.out; have y10 := ZZ33.out; have y11 := ZZ34.out; have y12 := ZZ37.out; have y13 := ZZ41.out; have y14 := ZZ45.out; have y15 := ZZ48.out; have y16 := ZZ51.out; have y17 := ZZ55.out; have y18 := ZZ58.out; omega)
        clear W0_55 G0_55
        clear KM_57
        have G0_59 : Hid (BagOwn (w6.alloc (.cells #[.slice (some ⟨g6, 0, none⟩) n1 n1] 26)).heap.size w7.heap.size w16 a7 (mkTo 1 LL n4)) := XM_57.out
        clear XM_57
        have q_60 := HD_57.out.cell (b := w7.heap.size) (v := .slice a7 n4 cap7) (by simp)
        go_wp2_with fail
        refine (heldH (w := w) (bx := [(w7.heap.size, .slice a7 n4 cap7), (w6.heap.size, .slice (some ⟨g6, 0, none⟩) n1 n1), (w5.heap.size, .slice (some ⟨g5, 0, none⟩) n0 n0), (P4, .slice a4 n4 cap4), (w.heap.size + 1, .slice a1 n1 cap1), (w.heap.size, .slice a0 n0 cap0)]) (lo := (w6.alloc (.cells #[.slice (some ⟨g6, 0, none⟩) n1 n1] 26)).heap.size) (hi := w7.heap.size) a7 n4 cap7 1 LL HD_57.out G0_59.out (by have y0 := ZZ1.out; have y1 := ZZ7.out; have y2 := ZZ8.out; have y3 := ZZ12.out; have y4 := ZZ16.out; have y5 := ZZ17.out; have y6 := ZZ20.out; have y7 := ZZ24.out; have y8 := ZZ25.out; have y9 := ZZ29.out; have y10 := ZZ33.out; have y11 := ZZ34.out; have y12 := ZZ37.out; have y13 := ZZ41.out; have y14 := ZZ45.out; have y15 := ZZ48.out; have y16 := ZZ51.out; have y17 := ZZ55.out; have y18 := ZZ58.out; omega) HN4.out HE.out.1 HE.out.2.2 (by omega)).mono ?_
        rintro e w17 ⟨m17, rfl, HM_61, _, HD_61, B_61⟩
        clear q_60
        clear HD_57
        have ZZ62 : Hid (w16.heap.size ≤ w17.heap.size) := B_61.out.size
        have W0_62 : Hid (BagIn w1.heap.size w4.heap.size w17 a4 LL) := W0_58.out.below B_61.out (by have y0 := ZZ1.out; have y1 := ZZ7.out; have y2 := ZZ8.out; have y3 := ZZ12.out; have y4 := ZZ16.out; have y5 := ZZ17.out; have y6 := ZZ20.out; have y7 := ZZ24.out; have y8 := ZZ25.out; have y9 := ZZ29.out; have y10 := ZZ33.out; have y11 := ZZ34.out; have y12 := ZZ37.out; have y13 := ZZ41.out; have y14 := ZZ45.out; have y15 := ZZ48.out; have y16 := ZZ51.out; have y17 := ZZ55.out; have y18 := ZZ58.out; have y19 := ZZ62.out; omega)
        have G0_62 : Hid (BagOwn (w6.alloc (.cells #[.slice (some ⟨g6, 0, none⟩) n1 n1] 26)).heap.size w7.heap.size w17 a7 (mkTo 1 LL n4)) := G0_59.out.below B_61.out (by have y0 := ZZ1.out; have y1 := ZZ7.out; have y2 := ZZ8.out; have y3 := ZZ12.out; have y4 := ZZ16.out; have y5 := ZZ17.out; have y6 := ZZ20.out; have y7 := ZZ24.out; have y8 := ZZ25.out; have y9 := ZZ29.out; have y10 := ZZ33.out; have y11 := ZZ34.out; have y12 := ZZ37.out; have y13 := ZZ41.out; have y14 := ZZ45.out; have y15 := ZZ48.out; have y16 := ZZ51.out; have y17 := ZZ55.out; have y18 := ZZ58.out; have y19 := ZZ62.out; omega)
        clear W0_58 G0_59
        clear B_61
        obtain rfl : m16 = m17 := by rw [HM_61.out, HM_57.out]
        clear HM_61
        have hm_61 : ¬ ((m16 : Nat) : Int) < 0 := by omega
        have q_63 := HD_61.out.cell (b := w.heap.size) (v := .slice a0 n0 cap0) (by simp)
        have q_64 := HD_61.out.cell (b := w.heap.size + 1) (v := .slice a1 n1 cap1) (by simp)
        have HCh1 : Hid (∀ w0, Below w17.heap.size w17 w0 → Calls Try.prog 42 #[.agg #[.slice a0 n0 cap0]] w0 fun e w' => ∃ g : Nat, e = .returned (.agg #[.slice (some ⟨g, 0, none⟩) n0 n0]) ∧ Hid (BagIn w17.heap.size w'.heap.size w' (some ⟨g, 0, none⟩) l0) ∧ Hid (Below w17.heap.size w17 w') ∧ Hid (Below w0.heap.size w0 w') ∧ (w'.cell? ⟨w.heap.size, 0, none⟩ = some (.slice a0 n0 cap0) ∧ w'.cell? ⟨w.heap.size + 1, 0, none⟩ = some (.slice a1 n1 cap1))) := fun w0 h =>
          (toB a0 n0 cap0 l0 HR0.out (HD_61.out.below h) HL0.out HM.out.1 HM.out.2.1).mono fun _ _ ⟨g, h1, h2, h3, h4⟩ =>
            ⟨g, h1, h2.out.toIn.wide h.size (Nat.le_refl _), h.trans (h4.out.mono h.size), h4.out, h3.out.cell (by simp), h3.out.cell (by simp)⟩
        have HCh2 : Hid (∀ w0, Below w17.heap.size w17 w0 → Calls Try.prog 42 #[.agg #[.slice a1 n1 cap1]] w0 fun e w' => ∃ g : Nat, e = .returned (.agg #[.slice (some ⟨g, 0, none⟩) n1 n1]) ∧ Hid (BagIn w17.heap.size w'.heap.size w' (some ⟨g, 0, none⟩) l1) ∧ Hid (Below w17.heap.size w17 w') ∧ Hid (Below w0.heap.size w0 w') ∧ (w'.cell? ⟨w.heap.size, 0, none⟩ = some (.slice a0 n0 cap0) ∧ w'.cell? ⟨w.heap.size + 1, 0, none⟩ = some (.slice a1 n1 cap1))) := fun w0 h =>
          (toB a1 n1 cap1 l1 HR1.out (HD_61.out.below h) HL1.out HM1.out.1 HM1.out.2.1).mono fun _ _ ⟨g, h1, h2, h3, h4⟩ =>
            ⟨g, h1, h2.out.toIn.wide h.size (Nat.le_refl _), h.trans (h4.out.mono h.size), h4.out, h3.out.cell (by simp), h3.out.cell (by simp)⟩
        have HCh3 : Hid (∀ w0 (g1 g2 : Nat), Below w17.heap.size w17 w0 → BagIn w17.heap.size w0.heap.size w0 (some ⟨g1, 0, none⟩) l0 → BagIn w17.heap.size w0.heap.size w0 (some ⟨g2, 0, none⟩) l1 → Calls Try.prog 28 #[.agg #[.slice (some ⟨g1, 0, none⟩) n0 n0], .agg #[.slice (some ⟨g2, 0, none⟩) n1 n1]] w0 fun e w' => ∃ (a' : Option Addr) (n' cap' : Nat) (ok : Bool), e = .returned (.tuple #[.agg #[.slice a' n' cap'], .bool ok]) ∧ Hid (ok = joinOk l0 l1) ∧ Hid (LL.length = n') ∧ Hid (BagIn w17.heap.size w'.heap.size w' a' LL) ∧ Hid (Below w17.heap.size w17 w') ∧ Hid (Below w0.heap.size w0 w') ∧ (w'.cell? ⟨w.heap.size, 0, none⟩ = some (.slice a0 n0 cap0) ∧ w'.cell? ⟨w.heap.size + 1, 0, none⟩ = some (.slice a1 n1 cap1))) := by
          intro w0 g1 g2 h h1 h2
          refine (bagJoin_any w17.heap.size w0.heap.size w17.heap.size w0.heap.size (some ⟨g1, 0, none⟩) (some ⟨g2, 0, none⟩) n0 n0 n1 n1 l0 l1 w0 h1 h2 (Nat.le_refl _) (Nat.le_refl _) HL0.out HL1.out HM.out.1 HM1.out.1 HM.out.2.1 HM1.out.2.1).mono ?_
          rintro e w' ⟨a', n', cap', ok, rfl, h3, h4, h5, h6⟩
          rw [← HLL.out] at h4 h5
          have hh := HD_61.out.below h
          exact ⟨a', n', cap', ok, rfl, h3, h4, h5.out.toIn.wide h.size (Nat.le_refl _), h.trans (h6.out.mono h.size), h6.out, (hh.below h6.out).cell (by simp), (hh.below h6.out).cell (by simp)⟩
        go_upto_region 31 with fail
        go_cut [15, 16] (fun s6 s7 wc => ∃ (P n' cap' : Nat) (a' : Option Addr) (ok : Bool), s6 = .pointer (some ⟨P, 0, none⟩) ∧ s7 = .bool ok ∧ Hid (ok = joinOk l0 l1) ∧ Hid (LL.length = n') ∧ Hid (w17.heap.size ≤ P ∧ P < wc.heap.size) ∧ Hid (Blk wc P 1 (fun _ => .slice a' n' cap')) ∧ Hid (BagIn w17.heap.size wc.heap.size wc a' LL) ∧ Hid (Below w17.heap.size w17 wc))
        case first =>
          refine wp_region_held_drew (S := fun w' => w'.cell? ⟨w.heap.size, 0, none⟩ = some (.slice a0 n0 cap0) ∧ w'.cell? ⟨w.heap.size + 1, 0, none⟩ = some (.slice a1 n1 cap1)) (by kernel_rfl) ⟨q_63, q_64⟩ (fun hHeld => ?_)
          have BEh0 : Hid (Below w17.heap.size w17 w17.drew) := (Below.refl _ _).drew
          refine wpAnyH_take (i := 0) (oi := _) (v := ?_) rfl (by kernel_rfl) (by kernel_rfl) (by kernel_rfl) (fun _ _ _ h => h) (Or.inl ⟨by rfl, ?_⟩) (by assumption) ?_
          rotate_left
          · intro w hSw; (try dsimp only at hSw); go_simp; try with_reducible rfl
          simp only [Act.put]
          refine wpAnyH_take (i := 2) (oi := _) (v := ?_) rfl (by kernel_rfl) (by kernel_rfl) (by kernel_rfl) (fun _ _ _ h => h) (Or.inl ⟨by rfl, ?_⟩) (by assumption) ?_
          rotate_left
          · intro w hSw; (try dsimp only at hSw); go_simp; try with_reducible rfl
          simp only [Act.put]
          have hHeld0 := hHeld
          refine wpAnyH_ready (rs := [1, 8]) (by kernel_rfl) (by simp) ?_
          refine AllReadyH.cons rfl (fun K hK => ?_) ?_
          · go_simp
            go_wp2_with (go_at_call 42; refine (HCh1.out _ BEh0.out).mono ?_; rintro e wh1 ⟨gh1, rfl, XXh1, BEh1, BWh1, hkh1⟩)
            refine hK.out _ _ hkh1 (fun hHeld => ?_)
            clear hK K
            refine wpAnyH_ready (rs := [3, 8]) (by kernel_rfl) (by simp) ?_
            refine AllReadyH.cons rfl (fun K hK => ?_) ?_
            · go_simp
              go_wp2_with (go_at_call 42; refine (HCh2.out _ BEh1.out).mono ?_; rintro e wh2 ⟨gh2, rfl, XXh2, BEh2, BWh2, hkh2⟩)
              refine hK.out _ _ hkh2 (fun hHeld => ?_)
              clear hK K
              have XXh1_2 : Hid (BagIn w17.heap.size wh2.heap.size wh2 (some ⟨gh1, 0, none⟩) l0) := (XXh1.out.below BWh2.out (Nat.le_refl _)).wide (Nat.le_refl _) BWh2.out.size
              refine wpAnyH_ready (rs := [4, 8]) (by kernel_rfl) (by simp) ?_
              refine AllReadyH.cons rfl (fun K hK => ?_) ?_
              · go_simp
                go_wp2_with (go_at_call 28; refine (HCh3.out _ _ _ BEh2.out XXh1_2.out XXh2.out).mono ?_; rintro e wh3 ⟨ah3, nh3, caph3, okh3, rfl, HOh3, HNh3, XXh3, BEh3, BWh3, hkh3⟩)
                refine hK.out _ _ hkh3 (fun hHeld => ?_)
                clear hK K
                have XXh1_3 : Hid (BagIn w17.heap.size wh3.heap.size wh3 (some ⟨gh1, 0, none⟩) l0) := (XXh1_2.out.below BWh3.out (Nat.le_refl _)).wide (Nat.le_refl _) BWh3.out.size
                have XXh2_3 : Hid (BagIn w17.heap.size wh3.heap.size wh3 (some ⟨gh2, 0, none⟩) l1) := (XXh2.out.below BWh3.out (Nat.le_refl _)).wide (Nat.le_refl _) BWh3.out.size
                refine wpAnyH_take (i := 5) (oi := _) (v := ?_) rfl (by kernel_rfl) (by kernel_rfl) (by kernel_rfl) (fun _ _ _ h => h) (Or.inl ⟨by rfl, ?_⟩) (by assumption) ?_
                rotate_left
                · intro w hSw; (try dsimp only at hSw); go_simp; try with_reducible rfl
                simp only [Act.put]
                refine wpAnyH_take (i := 6) (oi := _) (v := ?_) rfl (by kernel_rfl) (by kernel_rfl) (by kernel_rfl) (fun _ _ _ h => h) (Or.inl ⟨by rfl, ?_⟩) (by assumption) ?_
                rotate_left
                · intro w hSw; (try dsimp only at hSw); go_simp; try with_reducible rfl
                simp only [Act.put]
                refine wpAnyH_take (i := 7) (oi := _) (v := ?_) rfl (by kernel_rfl) (by kernel_rfl) (by kernel_rfl) (fun _ _ _ h => h) (Or.inl ⟨by rfl, ?_⟩) (by assumption) ?_
                rotate_left
                · intro w hSw; (try dsimp only at hSw); go_simp; try with_reducible rfl
                simp only [Act.put]
                refine wpAnyH_ready (rs := [8]) (by kernel_rfl) (by simp) ?_
                refine AllReadyH.cons rfl (fun K hK => ?_) ?_
                · go_simp
                  have PBh1 : Hid (One (wh3.alloc (.cells #[.slice none 0 0] 26)) wh3.heap.size (.slice none 0 0)) := One.new wh3 _ rfl _
                  have BAh1 : Hid (Below w17.heap.size w17 (wh3.alloc (.cells #[.slice none 0 0] 26))) := BEh3.out.alloc BEh3.out.size _
                  have PLh1 : Hid (w17.heap.size ≤ wh3.heap.size) := BEh3.out.size
                  have XXh1_p1 : Hid (BagIn w17.heap.size (wh3.alloc (.cells #[.slice none 0 0] 26)).heap.size (wh3.alloc (.cells #[.slice none 0 0] 26)) (some ⟨gh1, 0, none⟩) l0) := bag_alloc XXh1_3.out _
                  have XXh2_p1 : Hid (BagIn w17.heap.size (wh3.alloc (.cells #[.slice none 0 0] 26)).heap.size (wh3.alloc (.cells #[.slice none 0 0] 26)) (some ⟨gh2, 0, none⟩) l1) := bag_alloc XXh2_3.out _
                  have XXh3_p1 : Hid (BagIn w17.heap.size (wh3.alloc (.cells #[.slice none 0 0] 26)).heap.size (wh3.alloc (.cells #[.slice none 0 0] 26)) ah3 LL) := bag_alloc XXh3.out _
                  have hph1 := (⟨cell_below hkh3.1 (below1' wh3 (.cells #[.slice none 0 0] 26)) (lt_of_cell hkh3.1), cell_below hkh3.2 (below1' wh3 (.cells #[.slice none 0 0] 26)) (lt_of_cell hkh3.2)⟩ : (wh3.alloc (.cells #[.slice none 0 0] 26)).cell? ⟨w.heap.size, 0, none⟩ = some (.slice a0 n0 cap0) ∧ (wh3.alloc (.cells #[.slice none 0 0] 26)).cell? ⟨w.heap.size + 1, 0, none⟩ = some (.slice a1 n1 cap1))
                  refine hK.out _ _ hph1 (fun hHeld => ?_)
                  clear hK K
                  refine wpAnyH_ready (rs := [9]) (by kernel_rfl) (by simp) ?_
                  refine AllReadyH.cons rfl (fun K hK => ?_) ?_
                  · go_simp
                    refine hK.out _ _ ⟨cell_below hkh3.1 (below1' wh3 _) (lt_of_cell hkh3.1), cell_below hkh3.2 (below1' wh3 _) (lt_of_cell hkh3.2)⟩ (fun hHeld => ?_)
                    clear hK K
                    refine wpAnyH_take (i := 10) (oi := _) (v := ?_) rfl (by kernel_rfl) (by kernel_rfl) (by kernel_rfl) (fun _ _ _ h => h) (Or.inl ⟨by rfl, ?_⟩) (by assumption) ?_
                    rotate_left
                    · intro w hSw; (try dsimp only at hSw); go_simp; try with_reducible rfl
                    simp only [Act.put]
                    refine wpAnyH_done (by kernel_rfl) ?_ _
                    simp only [List.getElem_toArray, List.getElem_cons_zero, List.getElem_cons_succ, List.setIfInBounds_toArray, List.set_cons_zero, List.set_cons_succ]
                    go_wp2_with fail
                    go_meet
                    case rel =>
                      obtain ⟨r1, r2, r3, r4⟩ := box_fresh (n := nh3) (cap := caph3) BEh3.out.size BEh3.out XXh3.out
                      exact ⟨_, nh3, caph3, ah3, okh3, rfl, rfl, HOh3, HNh3, r1, r2, r3, r4⟩
                  exact AllReadyH.nil
                exact AllReadyH.nil
              refine AllReadyH.cons rfl (fun K hK => ?_) ?_
              · go_simp
                have PBh2 : Hid (One (wh2.alloc (.cells #[.slice none 0 0] 26)) wh2.heap.size (.slice none 0 0)) := One.new wh2 _ rfl _
                have BAh2 : Hid (Below w17.heap.size w17 (wh2.alloc (.cells #[.slice none 0 0] 26))) := BEh2.out.alloc BEh2.out.size _
                have PLh2 : Hid (w17.heap.size ≤ wh2.heap.size) := BEh2.out.size
                have XXh1_p2 : Hid (BagIn w17.heap.size (wh2.alloc (.cells #[.slice none 0 0] 26)).heap.size (wh2.alloc (.cells #[.slice none 0 0] 26)) (some ⟨gh1, 0, none⟩) l0) := bag_alloc XXh1_2.out _
                have XXh2_p2 : Hid (BagIn w17.heap.size (wh2.alloc (.cells #[.slice none 0 0] 26)).heap.size (wh2.alloc (.cells #[.slice none 0 0] 26)) (some ⟨gh2, 0, none⟩) l1) := bag_alloc XXh2.out _
                have hph2 := (⟨cell_below hkh2.1 (below1' wh2 (.cells #[.slice none 0 0] 26)) (lt_of_cell hkh2.1), cell_below hkh2.2 (below1' wh2 (.cells #[.slice none 0 0] 26)) (lt_of_cell hkh2.2)⟩ : (wh2.alloc (.cells #[.slice none 0 0] 26)).cell? ⟨w.heap.size, 0, none⟩ = some (.slice a0 n0 cap0) ∧ (wh2.alloc (.cells #[.slice none 0 0] 26)).cell? ⟨w.heap.size + 1, 0, none⟩ = some (.slice a1 n1 cap1))
                refine hK.out _ _ hph2 (fun hHeld => ?_)
                clear hK K
                refine wpAnyH_ready (rs := [4]) (by kernel_rfl) (by simp) ?_
                refine AllReadyH.cons rfl (fun K hK => ?_) ?_
                · go_simp
                  go_wp2_with (go_at_call 28; refine (HCh3.out _ _ _ BAh2.out XXh1_p2.out XXh2_p2.out).mono ?_; rintro e wh3 ⟨ah3, nh3, caph3, okh3, rfl, HOh3, HNh3, XXh3, BEh3, BWh3, hkh3⟩)
                  refine hK.out _ _ hkh3 (fun hHeld => ?_)
                  clear hK K
                  have XXh1_3a : Hid (BagIn w17.heap.size wh3.heap.size wh3 (some ⟨gh1, 0, none⟩) l0) := (XXh1_p2.out.below BWh3.out (Nat.le_refl _)).wide (Nat.le_refl _) BWh3.out.size
                  have XXh2_3a : Hid (BagIn w17.heap.size wh3.heap.size wh3 (some ⟨gh2, 0, none⟩) l1) := (XXh2_p2.out.below BWh3.out (Nat.le_refl _)).wide (Nat.le_refl _) BWh3.out.size
                  have PBh_3 : Hid (One wh3 wh2.heap.size (.slice none 0 0)) := PBh2.out.block (BWh3.out.block _ PBh2.out.lt)
                  refine wpAnyH_take (i := 5) (oi := _) (v := ?_) rfl (by kernel_rfl) (by kernel_rfl) (by kernel_rfl) (fun _ _ _ h => h) (Or.inl ⟨by rfl, ?_⟩) (by assumption) ?_
                  rotate_left
                  · intro w hSw; (try dsimp only at hSw); go_simp; try with_reducible rfl
                  simp only [Act.put]
                  refine wpAnyH_take (i := 6) (oi := _) (v := ?_) rfl (by kernel_rfl) (by kernel_rfl) (by kernel_rfl) (fun _ _ _ h => h) (Or.inl ⟨by rfl, ?_⟩) (by assumption) ?_
                  rotate_left
                  · intro w hSw; (try dsimp only at hSw); go_simp; try with_reducible rfl
                  simp only [Act.put]
                  refine wpAnyH_take (i := 7) (oi := _) (v := ?_) rfl (by kernel_rfl) (by kernel_rfl) (by kernel_rfl) (fun _ _ _ h => h) (Or.inl ⟨by rfl, ?_⟩) (by assumption) ?_
                  rotate_left
                  · intro w hSw; (try dsimp only at hSw); go_simp; try with_reducible rfl
                  simp only [Act.put]
                  refine wpAnyH_ready (rs := [9]) (by kernel_rfl) (by simp) ?_
                  refine AllReadyH.cons rfl (fun K hK => ?_) ?_
                  · have zc := PBh_3.out.blk.cell (i := 0) (by omega)
                    have zf := PBh_3.out.blk.frozen 0
                    go_simp
                    refine hK.out _ _ ⟨cell_set hkh3.1 _ (show w.heap.size ≠ wh2.heap.size from by have y0 := ZZ1.out; have y1 := ZZ7.out; have y2 := ZZ8.out; have y3 := ZZ12.out; have y4 := ZZ16.out; have y5 := ZZ17.out; have y6 := ZZ20.out; have y7 := ZZ24.out; have y8 := ZZ25.out; have y9 := ZZ29.out; have y10 := ZZ33.out; have y11 := ZZ34.out; have y12 := ZZ37.out; have y13 := ZZ41.out; have y14 := ZZ45.out; have y15 := ZZ48.out; have y16 := ZZ51.out; have y17 := ZZ55.out; have y18 := ZZ58.out; have y19 := ZZ62.out; have yp := PLh2.out; omega), cell_set hkh3.2 _ (show w.heap.size + 1 ≠ wh2.heap.size from by have y0 := ZZ1.out; have y1 := ZZ7.out; have y2 := ZZ8.out; have y3 := ZZ12.out; have y4 := ZZ16.out; have y5 := ZZ17.out; have y6 := ZZ20.out; have y7 := ZZ24.out; have y8 := ZZ25.out; have y9 := ZZ29.out; have y10 := ZZ33.out; have y11 := ZZ34.out; have y12 := ZZ37.out; have y13 := ZZ41.out; have y14 := ZZ45.out; have y15 := ZZ48.out; have y16 := ZZ51.out; have y17 := ZZ55.out; have y18 := ZZ58.out; have y19 := ZZ62.out; have yp := PLh2.out; omega)⟩ (fun hHeld => ?_)
                    clear hK K
                    refine wpAnyH_take (i := 10) (oi := _) (v := ?_) rfl (by kernel_rfl) (by kernel_rfl) (by kernel_rfl) (fun _ _ _ h => h) (Or.inl ⟨by rfl, ?_⟩) (by assumption) ?_
                    rotate_left
                    · intro w hSw; (try dsimp only at hSw); go_simp; try with_reducible rfl
                    simp only [Act.put]
                    refine wpAnyH_done (by kernel_rfl) ?_ _
                    simp only [List.getElem_toArray, List.getElem_cons_zero, List.getElem_cons_succ, List.setIfInBounds_toArray, List.set_cons_zero, List.set_cons_succ]
                    go_wp2_with fail
                    go_meet
                    case rel =>
                      obtain ⟨r1, r2, r3, r4⟩ := box_leaf (n := nh3) (cap := caph3) PBh_3.out PLh2.out BEh3.out XXh3.out
                      exact ⟨_, nh3, caph3, ah3, okh3, rfl, rfl, HOh3, HNh3, r1, r2, r3, r4⟩
                  exact AllReadyH.nil
                exact AllReadyH.nil
              exact AllReadyH.nil
            refine AllReadyH.cons rfl (fun K hK => ?_) ?_
            · go_simp
              have PBh3 : Hid (One (wh1.alloc (.cells #[.slice none 0 0] 26)) wh1.heap.size (.slice none 0 0)) := One.new wh1 _ rfl _
              have BAh3 : Hid (Below w17.heap.size w17 (wh1.alloc (.cells #[.slice none 0 0] 26))) := BEh1.out.alloc BEh1.out.size _
              have PLh3 : Hid (w17.heap.size ≤ wh1.heap.size) := BEh1.out.size
              have XXh1_p3 : Hid (BagIn w17.heap.size (wh1.alloc (.cells #[.slice none 0 0] 26)).heap.size (wh1.alloc (.cells #[.slice none 0 0] 26)) (some ⟨gh1, 0, none⟩) l0) := bag_alloc XXh1.out _
              have hph3 := (⟨cell_below hkh1.1 (below1' wh1 (.cells #[.slice none 0 0] 26)) (lt_of_cell hkh1.1), cell_below hkh1.2 (below1' wh1 (.cells #[.slice none 0 0] 26)) (lt_of_cell hkh1.2)⟩ : (wh1.alloc (.cells #[.slice none 0 0] 26)).cell? ⟨w.heap.size, 0, none⟩ = some (.slice a0 n0 cap0) ∧ (wh1.alloc (.cells #[.slice none 0 0] 26)).cell? ⟨w.heap.size + 1, 0, none⟩ = some (.slice a1 n1 cap1))
              refine hK.out _ _ hph3 (fun hHeld => ?_)
              clear hK K
              refine wpAnyH_ready (rs := [3]) (by kernel_rfl) (by simp) ?_
              refine AllReadyH.cons rfl (fun K hK => ?_) ?_
              · go_simp
                go_wp2_with (go_at_call 42; refine (HCh2.out _ BAh3.out).mono ?_; rintro e wh2 ⟨gh2, rfl, XXh2, BEh2, BWh2, hkh2⟩)
                refine hK.out _ _ hkh2 (fun hHeld => ?_)
                clear hK K
                have XXh1_2a : Hid (BagIn w17.heap.size wh2.heap.size wh2 (some ⟨gh1, 0, none⟩) l0) := (XXh1_p3.out.below BWh2.out (Nat.le_refl _)).wide (Nat.le_refl _) BWh2.out.size
                have PBh_2 : Hid (One wh2 wh1.heap.size (.slice none 0 0)) := PBh3.out.block (BWh2.out.block _ PBh3.out.lt)
                refine wpAnyH_ready (rs := [4]) (by kernel_rfl) (by simp) ?_
                refine AllReadyH.cons rfl (fun K hK => ?_) ?_
                · go_simp
                  go_wp2_with (go_at_call 28; refine (HCh3.out _ _ _ BEh2.out XXh1_2a.out XXh2.out).mono ?_; rintro e wh3 ⟨ah3, nh3, caph3, okh3, rfl, HOh3, HNh3, XXh3, BEh3, BWh3, hkh3⟩)
                  refine hK.out _ _ hkh3 (fun hHeld => ?_)
                  clear hK K
                  have XXh1_3a : Hid (BagIn w17.heap.size wh3.heap.size wh3 (some ⟨gh1, 0, none⟩) l0) := (XXh1_2a.out.below BWh3.out (Nat.le_refl _)).wide (Nat.le_refl _) BWh3.out.size
                  have XXh2_3a : Hid (BagIn w17.heap.size wh3.heap.size wh3 (some ⟨gh2, 0, none⟩) l1) := (XXh2.out.below BWh3.out (Nat.le_refl _)).wide (Nat.le_refl _) BWh3.out.size
                  have PBh_3 : Hid (One wh3 wh1.heap.size (.slice none 0 0)) := PBh_2.out.block (BWh3.out.block _ PBh_2.out.lt)
                  refine wpAnyH_take (i := 5) (oi := _) (v := ?_) rfl (by kernel_rfl) (by kernel_rfl) (by kernel_rfl) (fun _ _ _ h => h) (Or.inl ⟨by rfl, ?_⟩) (by assumption) ?_
                  rotate_left
                  · intro w hSw; (try dsimp only at hSw); go_simp; try with_reducible rfl
                  simp only [Act.put]
                  refine wpAnyH_take (i := 6) (oi := _) (v := ?_) rfl (by kernel_rfl) (by kernel_rfl) (by kernel_rfl) (fun _ _ _ h => h) (Or.inl ⟨by rfl, ?_⟩) (by assumption) ?_
                  rotate_left
                  · intro w hSw; (try dsimp only at hSw); go_simp; try with_reducible rfl
                  simp only [Act.put]
                  refine wpAnyH_take (i := 7) (oi := _) (v := ?_) rfl (by kernel_rfl) (by kernel_rfl) (by kernel_rfl) (fun _ _ _ h => h) (Or.inl ⟨by rfl, ?_⟩) (by assumption) ?_
                  rotate_left
                  · intro w hSw; (try dsimp only at hSw); go_simp; try with_reducible rfl
                  simp only [Act.put]
                  refine wpAnyH_ready (rs := [9]) (by kernel_rfl) (by simp) ?_
                  refine AllReadyH.cons rfl (fun K hK => ?_) ?_
                  · have zc := PBh_3.out.blk.cell (i := 0) (by omega)
                    have zf := PBh_3.out.blk.frozen 0
                    go_simp
                    refine hK.out _ _ ⟨cell_set hkh3.1 _ (show w.heap.size ≠ wh1.heap.size from by have y0 := ZZ1.out; have y1 := ZZ7.out; have y2 := ZZ8.out; have y3 := ZZ12.out; have y4 := ZZ16.out; have y5 := ZZ17.out; have y6 := ZZ20.out; have y7 := ZZ24.out; have y8 := ZZ25.out; have y9 := ZZ29.out; have y10 := ZZ33.out; have y11 := ZZ34.out; have y12 := ZZ37.out; have y13 := ZZ41.out; have y14 := ZZ45.out; have y15 := ZZ48.out; have y16 := ZZ51.out; have y17 := ZZ55.out; have y18 := ZZ58.out; have y19 := ZZ62.out; have yp := PLh3.out; omega), cell_set hkh3.2 _ (show w.heap.size + 1 ≠ wh1.heap.size from by have y0 := ZZ1.out; have y1 := ZZ7.out; have y2 := ZZ8.out; have y3 := ZZ12.out; have y4 := ZZ16.out; have y5 := ZZ17.out; have y6 := ZZ20.out; have y7 := ZZ24.out; have y8 := ZZ25.out; have y9 := ZZ29.out; have y10 := ZZ33.out; have y11 := ZZ34.out; have y12 := ZZ37.out; have y13 := ZZ41.out; have y14 := ZZ45.out; have y15 := ZZ48.out; have y16 := ZZ51.out; have y17 := ZZ55.out; have y18 := ZZ58.out; have y19 := ZZ62.out; have yp := PLh3.out; omega)⟩ (fun hHeld => ?_)
                    clear hK K
                    refine wpAnyH_take (i := 10) (oi := _) (v := ?_) rfl (by kernel_rfl) (by kernel_rfl) (by kernel_rfl) (fun _ _ _ h => h) (Or.inl ⟨by rfl, ?_⟩) (by assumption) ?_
                    rotate_left
                    · intro w hSw; (try dsimp only at hSw); go_simp; try with_reducible rfl
                    simp only [Act.put]
                    refine wpAnyH_done (by kernel_rfl) ?_ _
                    simp only [List.getElem_toArray, List.getElem_cons_zero, List.getElem_cons_succ, List.setIfInBounds_toArray, List.set_cons_zero, List.set_cons_succ]
                    go_wp2_with fail
                    go_meet
                    case rel =>
                      obtain ⟨r1, r2, r3, r4⟩ := box_leaf (n := nh3) (cap := caph3) PBh_3.out PLh3.out BEh3.out XXh3.out
                      exact ⟨_, nh3, caph3, ah3, okh3, rfl, rfl, HOh3, HNh3, r1, r2, r3, r4⟩
                  exact AllReadyH.nil
                exact AllReadyH.nil
              exact AllReadyH.nil
            exact AllReadyH.nil
          refine AllReadyH.cons rfl (fun K hK => ?_) ?_
          · go_simp
            have PBh4 : Hid (One (w17.drew.alloc (.cells #[.slice none 0 0] 26)) w17.heap.size (.slice none 0 0)) := One.new w17.drew _ rfl _
            have BAh4 : Hid (Below w17.heap.size w17 (w17.drew.alloc (.cells #[.slice none 0 0] 26))) := BEh0.out.alloc BEh0.out.size _
            have PLh4 : Hid (w17.heap.size ≤ w17.heap.size) := BEh0.out.size
            have hph4 := (⟨cell_below hHeld0.1 (below1' w17.drew (.cells #[.slice none 0 0] 26)) (lt_of_cell hHeld0.1), cell_below hHeld0.2 (below1' w17.drew (.cells #[.slice none 0 0] 26)) (lt_of_cell hHeld0.2)⟩ : (w17.drew.alloc (.cells #[.slice none 0 0] 26)).cell? ⟨w.heap.size, 0, none⟩ = some (.slice a0 n0 cap0) ∧ (w17.drew.alloc (.cells #[.slice none 0 0] 26)).cell? ⟨w.heap.size + 1, 0, none⟩ = some (.slice a1 n1 cap1))
            refine hK.out _ _ hph4 (fun hHeld => ?_)
            clear hK K
            refine wpAnyH_ready (rs := [1]) (by kernel_rfl) (by simp) ?_
            refine AllReadyH.cons rfl (fun K hK => ?_) ?_
            · go_simp
              go_wp2_with (go_at_call 42; refine (HCh1.out _ BAh4.out).mono ?_; rintro e wh1 ⟨gh1, rfl, XXh1, BEh1, BWh1, hkh1⟩)
              refine hK.out _ _ hkh1 (fun hHeld => ?_)
              clear hK K
              have PBh_1 : Hid (One wh1 w17.heap.size (.slice none 0 0)) := PBh4.out.block (BWh1.out.block _ PBh4.out.lt)
              refine wpAnyH_ready (rs := [3]) (by kernel_rfl) (by simp) ?_
              refine AllReadyH.cons rfl (fun K hK => ?_) ?_
              · go_simp
                go_wp2_with (go_at_call 42; refine (HCh2.out _ BEh1.out).mono ?_; rintro e wh2 ⟨gh2, rfl, XXh2, BEh2, BWh2, hkh2⟩)
                refine hK.out _ _ hkh2 (fun hHeld => ?_)
                clear hK K
                have XXh1_2a : Hid (BagIn w17.heap.size wh2.heap.size wh2 (some ⟨gh1, 0, none⟩) l0) := (XXh1.out.below BWh2.out (Nat.le_refl _)).wide (Nat.le_refl _) BWh2.out.size
                have PBh_2 : Hid (One wh2 w17.heap.size (.slice none 0 0)) := PBh_1.out.block (BWh2.out.block _ PBh_1.out.lt)
                refine wpAnyH_ready (rs := [4]) (by kernel_rfl) (by simp) ?_
                refine AllReadyH.cons rfl (fun K hK => ?_) ?_
                · go_simp
                  go_wp2_with (go_at_call 28; refine (HCh3.out _ _ _ BEh2.out XXh1_2a.out XXh2.out).mono ?_; rintro e wh3 ⟨ah3, nh3, caph3, okh3, rfl, HOh3, HNh3, XXh3, BEh3, BWh3, hkh3⟩)
                  refine hK.out _ _ hkh3 (fun hHeld => ?_)
                  clear hK K
                  have XXh1_3a : Hid (BagIn w17.heap.size wh3.heap.size wh3 (some ⟨gh1, 0, none⟩) l0) := (XXh1_2a.out.below BWh3.out (Nat.le_refl _)).wide (Nat.le_refl _) BWh3.out.size
                  have XXh2_3a : Hid (BagIn w17.heap.size wh3.heap.size wh3 (some ⟨gh2, 0, none⟩) l1) := (XXh2.out.below BWh3.out (Nat.le_refl _)).wide (Nat.le_refl _) BWh3.out.size
                  have PBh_3 : Hid (One wh3 w17.heap.size (.slice none 0 0)) := PBh_2.out.block (BWh3.out.block _ PBh_2.out.lt)
                  refine wpAnyH_take (i := 5) (oi := _) (v := ?_) rfl (by kernel_rfl) (by kernel_rfl) (by kernel_rfl) (fun _ _ _ h => h) (Or.inl ⟨by rfl, ?_⟩) (by assumption) ?_
                  rotate_left
                  · intro w hSw; (try dsimp only at hSw); go_simp; try with_reducible rfl
                  simp only [Act.put]
                  refine wpAnyH_take (i := 6) (oi := _) (v := ?_) rfl (by kernel_rfl) (by kernel_rfl) (by kernel_rfl) (fun _ _ _ h => h) (Or.inl ⟨by rfl, ?_⟩) (by assumption) ?_
                  rotate_left
                  · intro w hSw; (try dsimp only at hSw); go_simp; try with_reducible rfl
                  simp only [Act.put]
                  refine wpAnyH_take (i := 7) (oi := _) (v := ?_) rfl (by kernel_rfl) (by kernel_rfl) (by kernel_rfl) (fun _ _ _ h => h) (Or.inl ⟨by rfl, ?_⟩) (by assumption) ?_
                  rotate_left
                  · intro w hSw; (try dsimp only at hSw); go_simp; try with_reducible rfl
                  simp only [Act.put]
                  refine wpAnyH_ready (rs := [9]) (by kernel_rfl) (by simp) ?_
                  refine AllReadyH.cons rfl (fun K hK => ?_) ?_
                  · have zc := PBh_3.out.blk.cell (i := 0) (by omega)
                    have zf := PBh_3.out.blk.frozen 0
                    go_simp
                    refine hK.out _ _ ⟨cell_set hkh3.1 _ (show w.heap.size ≠ w17.heap.size from by have y0 := ZZ1.out; have y1 := ZZ7.out; have y2 := ZZ8.out; have y3 := ZZ12.out; have y4 := ZZ16.out; have y5 := ZZ17.out; have y6 := ZZ20.out; have y7 := ZZ24.out; have y8 := ZZ25.out; have y9 := ZZ29.out; have y10 := ZZ33.out; have y11 := ZZ34.out; have y12 := ZZ37.out; have y13 := ZZ41.out; have y14 := ZZ45.out; have y15 := ZZ48.out; have y16 := ZZ51.out; have y17 := ZZ55.out; have y18 := ZZ58.out; have y19 := ZZ62.out; have yp := PLh4.out; omega), cell_set hkh3.2 _ (show w.heap.size + 1 ≠ w17.heap.size from by have y0 := ZZ1.out; have y1 := ZZ7.out; have y2 := ZZ8.out; have y3 := ZZ12.out; have y4 := ZZ16.out; have y5 := ZZ17.out; have y6 := ZZ20.out; have y7 := ZZ24.out; have y8 := ZZ25.out; have y9 := ZZ29.out; have y10 := ZZ33.out; have y11 := ZZ34.out; have y12 := ZZ37.out; have y13 := ZZ41.out; have y14 := ZZ45.out; have y15 := ZZ48.out; have y16 := ZZ51.out; have y17 := ZZ55.out; have y18 := ZZ58.out; have y19 := ZZ62.out; have yp := PLh4.out; omega)⟩ (fun hHeld => ?_)
                    clear hK K
                    refine wpAnyH_take (i := 10) (oi := _) (v := ?_) rfl (by kernel_rfl) (by kernel_rfl) (by kernel_rfl) (fun _ _ _ h => h) (Or.inl ⟨by rfl, ?_⟩) (by assumption) ?_
                    rotate_left
                    · intro w hSw; (try dsimp only at hSw); go_simp; try with_reducible rfl
                    simp only [Act.put]
                    refine wpAnyH_done (by kernel_rfl) ?_ _
                    simp only [List.getElem_toArray, List.getElem_cons_zero, List.getElem_cons_succ, List.setIfInBounds_toArray, List.set_cons_zero, List.set_cons_succ]
                    go_wp2_with fail
                    go_meet
                    case rel =>
                      obtain ⟨r1, r2, r3, r4⟩ := box_leaf (n := nh3) (cap := caph3) PBh_3.out PLh4.out BEh3.out XXh3.out
                      exact ⟨_, nh3, caph3, ah3, okh3, rfl, rfl, HOh3, HNh3, r1, r2, r3, r4⟩
                  exact AllReadyH.nil
                exact AllReadyH.nil
              exact AllReadyH.nil
            exact AllReadyH.nil
          exact AllReadyH.nil
        case rest =>
          clear q_63 q_64
          obtain ⟨P20, n20, cap20, a20, ok20, rfl, rfl, HOK_65, HN_65, PP_65, PK_65, X_65, B_65⟩ := hcut
          clear HCh1 HCh2 HCh3
          obtain ⟨w20, HW_65⟩ : ∃ x, x = wc := ⟨_, rfl⟩
          subst HW_65
          have HD_66 : Hid (Held w w20 [(w7.heap.size, .slice a7 n4 cap7), (w6.heap.size, .slice (some ⟨g6, 0, none⟩) n1 n1), (w5.heap.size, .slice (some ⟨g5, 0, none⟩) n0 n0), (P4, .slice a4 n4 cap4), (w.heap.size + 1, .slice a1 n1 cap1), (w.heap.size, .slice a0 n0 cap0)]) := HD_61.out.below B_65.out
          clear HD_61
          have HD_67 : Hid (Held w w20 [(P20, .slice a20 n20 cap20), (w7.heap.size, .slice a7 n4 cap7), (w6.heap.size, .slice (some ⟨g6, 0, none⟩) n1 n1), (w5.heap.size, .slice (some ⟨g5, 0, none⟩) n0 n0), (P4, .slice a4 n4 cap4), (w.heap.size + 1, .slice a1 n1 cap1), (w.heap.size, .slice a0 n0 cap0)]) := ⟨HD_66.out.bel, fun x hx => by rcases List.mem_cons.1 hx with rfl | hx; exact PK_65.out; exact HD_66.out.box x hx⟩
          clear HD_66
          have ZZ68 : Hid (w17.heap.size ≤ w20.heap.size) := B_65.out.size
          have W0_68 : Hid (BagIn w1.heap.size w4.heap.size w20 a4 LL) := W0_62.out.below B_65.out (by have y0 := ZZ1.out; have y1 := ZZ7.out; have y2 := ZZ8.out; have y3 := ZZ12.out; have y4 := ZZ16.out; have y5 := ZZ17.out; have y6 := ZZ20.out; have y7 := ZZ24.out; have y8 := ZZ25.out; have y9 := ZZ29.out; have y10 := ZZ33.out; have y11 := ZZ34.out; have y12 := ZZ37.out; have y13 := ZZ41.out; have y14 := ZZ45.out; have y15 := ZZ48.out; have y16 := ZZ51.out; have y17 := ZZ55.out; have y18 := ZZ58.out; have y19 := ZZ62.out; have y20 := ZZ68.out; omega)
          have G0_68 : Hid (BagOwn (w6.alloc (.cells #[.slice (some ⟨g6, 0, none⟩) n1 n1] 26)).heap.size w7.heap.size w20 a7 (mkTo 1 LL n4)) := G0_62.out.below B_65.out (by have y0 := ZZ1.out; have y1 := ZZ7.out; have y2 := ZZ8.out; have y3 := ZZ12.out; have y4 := ZZ16.out; have y5 := ZZ17.out; have y6 := ZZ20.out; have y7 := ZZ24.out; have y8 := ZZ25.out; have y9 := ZZ29.out; have y10 := ZZ33.out; have y11 := ZZ34.out; have y12 := ZZ37.out; have y13 := ZZ41.out; have y14 := ZZ45.out; have y15 := ZZ48.out; have y16 := ZZ51.out; have y17 := ZZ55.out; have y18 := ZZ58.out; have y19 := ZZ62.out; have y20 := ZZ68.out; omega)
          clear W0_62 G0_62
          have ZZ69 : Hid (w17.heap.size ≤ P20 ∧ P20 < w20.heap.size) := PP_65.out
          obtain rfl : n4 = n20 := by rw [← HN_65.out, HN4.out]
          obtain rfl : ok4 = ok20 := by rw [HOK_65.out, HOK4.out]
          clear HN_65 HOK_65
          have H0_70 : Hid (BagIn w17.heap.size w20.heap.size w20 a20 LL) := X_65.out
          clear X_65 PP_65 PK_65 B_65
          have q_71 := HD_67.out.cell (b := P20) (v := .slice a20 n4 cap20) (by simp)
          have q_72 := HD_67.out.cell (b := P4) (v := .slice a4 n4 cap4) (by simp)
          go_wp2_with fail
          refine (eqH (w := w) (bx := [(P20, .slice a20 n4 cap20), (w7.heap.size, .slice a7 n4 cap7), (w6.heap.size, .slice (some ⟨g6, 0, none⟩) n1 n1), (w5.heap.size, .slice (some ⟨g5, 0, none⟩) n0 n0), (P4, .slice a4 n4 cap4), (w.heap.size + 1, .slice a1 n1 cap1), (w.heap.size, .slice a0 n0 cap0)]) (lo := w17.heap.size) (hi := w20.heap.size) (lo' := w1.heap.size) (hi' := w4.heap.size) a20 a4 n4 cap20 cap4 LL HD_67.out H0_70.out W0_68.out (by have y0 := ZZ1.out; have y1 := ZZ7.out; have y2 := ZZ8.out; have y3 := ZZ12.out; have y4 := ZZ16.out; have y5 := ZZ17.out; have y6 := ZZ20.out; have y7 := ZZ24.out; have y8 := ZZ25.out; have y9 := ZZ29.out; have y10 := ZZ33.out; have y11 := ZZ34.out; have y12 := ZZ37.out; have y13 := ZZ41.out; have y14 := ZZ45.out; have y15 := ZZ48.out; have y16 := ZZ51.out; have y17 := ZZ55.out; have y18 := ZZ58.out; have y19 := ZZ62.out; have y20 := ZZ68.out; have y21 := ZZ69.out; omega) (by have y0 := ZZ1.out; have y1 := ZZ7.out; have y2 := ZZ8.out; have y3 := ZZ12.out; have y4 := ZZ16.out; have y5 := ZZ17.out; have y6 := ZZ20.out; have y7 := ZZ24.out; have y8 := ZZ25.out; have y9 := ZZ29.out; have y10 := ZZ33.out; have y11 := ZZ34.out; have y12 := ZZ37.out; have y13 := ZZ41.out; have y14 := ZZ45.out; have y15 := ZZ48.out; have y16 := ZZ51.out; have y17 := ZZ55.out; have y18 := ZZ58.out; have y19 := ZZ62.out; have y20 := ZZ68.out; have y21 := ZZ69.out; omega) HN4.out HE.out.1 HE.out.2.1).mono ?_
          rintro e w21 ⟨rfl, HD_73, B_73⟩
          clear q_71 q_72
          clear HD_67
          have ZZ74 : Hid (w20.heap.size ≤ w21.heap.size) := B_73.out.size
          have W0_74 : Hid (BagIn w1.heap.size w4.heap.size w21 a4 LL) := W0_68.out.below B_73.out (by have y0 := ZZ1.out; have y1 := ZZ7.out; have y2 := ZZ8.out; have y3 := ZZ12.out; have y4 := ZZ16.out; have y5 := ZZ17.out; have y6 := ZZ20.out; have y7 := ZZ24.out; have y8 := ZZ25.out; have y9 := ZZ29.out; have y10 := ZZ33.out; have y11 := ZZ34.out; have y12 := ZZ37.out; have y13 := ZZ41.out; have y14 := ZZ45.out; have y15 := ZZ48.out; have y16 := ZZ51.out; have y17 := ZZ55.out; have y18 := ZZ58.out; have y19 := ZZ62.out; have y20 := ZZ68.out; have y21 := ZZ69.out; have y22 := ZZ74.out; omega)
          have G0_74 : Hid (BagOwn (w6.alloc (.cells #[.slice (some ⟨g6, 0, none⟩) n1 n1] 26)).heap.size w7.heap.size w21 a7 (mkTo 1 LL n4)) := G0_68.out.below B_73.out (by have y0 := ZZ1.out; have y1 := ZZ7.out; have y2 := ZZ8.out; have y3 := ZZ12.out; have y4 := ZZ16.out; have y5 := ZZ17.out; have y6 := ZZ20.out; have y7 := ZZ24.out; have y8 := ZZ25.out; have y9 := ZZ29.out; have y10 := ZZ33.out; have y11 := ZZ34.out; have y12 := ZZ37.out; have y13 := ZZ41.out; have y14 := ZZ45.out; have y15 := ZZ48.out; have y16 := ZZ51.out; have y17 := ZZ55.out; have y18 := ZZ58.out; have y19 := ZZ62.out; have y20 := ZZ68.out; have y21 := ZZ69.out; have y22 := ZZ74.out; omega)
          have H0_74 : Hid (BagIn w17.heap.size w20.heap.size w21 a20 LL) := H0_70.out.below B_73.out (by have y0 := ZZ1.out; have y1 := ZZ7.out; have y2 := ZZ8.out; have y3 := ZZ12.out; have y4 := ZZ16.out; have y5 := ZZ17.out; have y6 := ZZ20.out; have y7 := ZZ24.out; have y8 := ZZ25.out; have y9 := ZZ29.out; have y10 := ZZ33.out; have y11 := ZZ34.out; have y12 := ZZ37.out; have y13 := ZZ41.out; have y14 := ZZ45.out; have y15 := ZZ48.out; have y16 := ZZ51.out; have y17 := ZZ55.out; have y18 := ZZ58.out; have y19 := ZZ62.out; have y20 := ZZ68.out; have y21 := ZZ69.out; have y22 := ZZ74.out; omega)
          clear W0_68 G0_68 H0_70
          clear B_73
          have q_75 := HD_73.out.cell (b := w7.heap.size) (v := .slice a7 n4 cap7) (by simp)
          go_wp2_with fail
          refine (heldH (w := w) (bx := [(P20, .slice a20 n4 cap20), (w7.heap.size, .slice a7 n4 cap7), (w6.heap.size, .slice (some ⟨g6, 0, none⟩) n1 n1), (w5.heap.size, .slice (some ⟨g5, 0, none⟩) n0 n0), (P4, .slice a4 n4 cap4), (w.heap.size + 1, .slice a1 n1 cap1), (w.heap.size, .slice a0 n0 cap0)]) (lo := (w6.alloc (.cells #[.slice (some ⟨g6, 0, none⟩) n1 n1] 26)).heap.size) (hi := w7.heap.size) a7 n4 cap7 1 LL HD_73.out G0_74.out (by have y0 := ZZ1.out; have y1 := ZZ7.out; have y2 := ZZ8.out; have y3 := ZZ12.out; have y4 := ZZ16.out; have y5 := ZZ17.out; have y6 := ZZ20.out; have y7 := ZZ24.out; have y8 := ZZ25.out; have y9 := ZZ29.out; have y10 := ZZ33.out; have y11 := ZZ34.out; have y12 := ZZ37.out; have y13 := ZZ41.out; have y14 := ZZ45.out; have y15 := ZZ48.out; have y16 := ZZ51.out; have y17 := ZZ55.out; have y18 := ZZ58.out; have y19 := ZZ62.out; have y20 := ZZ68.out; have y21 := ZZ69.out; have y22 := ZZ74.out; omega) HN4.out HE.out.1 HE.out.2.2 (by omega)).mono ?_
          rintro e w22 ⟨m22, rfl, HM_76, _, HD_76, B_76⟩
          clear q_75
          clear HD_73
          have ZZ77 : Hid (w21.heap.size ≤ w22.heap.size) := B_76.out.size
          have W0_77 : Hid (BagIn w1.heap.size w4.heap.size w22 a4 LL) := W0_74.out.below B_76.out (by have y0 := ZZ1.out; have y1 := ZZ7.out; have y2 := ZZ8.out; have y3 := ZZ12.out; have y4 := ZZ16.out; have y5 := ZZ17.out; have y6 := ZZ20.out; have y7 := ZZ24.out; have y8 := ZZ25.out; have y9 := ZZ29.out; have y10 := ZZ33.out; have y11 := ZZ34.out; have y12 := ZZ37.out; have y13 := ZZ41.out; have y14 := ZZ45.out; have y15 := ZZ48.out; have y16 := ZZ51.out; have y17 := ZZ55.out; have y18 := ZZ58.out; have y19 := ZZ62.out; have y20 := ZZ68.out; have y21 := ZZ69.out; have y22 := ZZ74.out; have y23 := ZZ77.out; omega)
          have G0_77 : Hid (BagOwn (w6.alloc (.cells #[.slice (some ⟨g6, 0, none⟩) n1 n1] 26)).heap.size w7.heap.size w22 a7 (mkTo 1 LL n4)) := G0_74.out.below B_76.out (by have y0 := ZZ1.out; have y1 := ZZ7.out; have y2 := ZZ8.out; have y3 := ZZ12.out; have y4 := ZZ16.out; have y5 := ZZ17.out; have y6 := ZZ20.out; have y7 := ZZ24.out; have y8 := ZZ25.out; have y9 := ZZ29.out; have y10 := ZZ33.out; have y11 := ZZ34.out; have y12 := ZZ37.out; have y13 := ZZ41.out; have y14 := ZZ45.out; have y15 := ZZ48.out; have y16 := ZZ51.out; have y17 := ZZ55.out; have y18 := ZZ58.out; have y19 := ZZ62.out; have y20 := ZZ68.out; have y21 := ZZ69.out; have y22 := ZZ74.out; have y23 := ZZ77.out; omega)
          have H0_77 : Hid (BagIn w17.heap.size w20.heap.size w22 a20 LL) := H0_74.out.below B_76.out (by have y0 := ZZ1.out; have y1 := ZZ7.out; have y2 := ZZ8.out; have y3 := ZZ12.out; have y4 := ZZ16.out; have y5 := ZZ17.out; have y6 := ZZ20.out; have y7 := ZZ24.out; have y8 := ZZ25.out; have y9 := ZZ29.out; have y10 := ZZ33.out; have y11 := ZZ34.out; have y12 := ZZ37.out; have y13 := ZZ41.out; have y14 := ZZ45.out; have y15 := ZZ48.out; have y16 := ZZ51.out; have y17 := ZZ55.out; have y18 := ZZ58.out; have y19 := ZZ62.out; have y20 := ZZ68.out; have y21 := ZZ69.out; have y22 := ZZ74.out; have y23 := ZZ77.out; omega)
          clear W0_74 G0_74 H0_74
          clear B_76
          obtain rfl : m16 = m22 := by rw [HM_76.out, HM_57.out]
          clear HM_76
          have hm_76 : ¬ ((m16 : Nat) : Int) < 0 := by omega
          go_wp2
          go_ret
          exact ⟨rfl, HD_76.out.bel⟩
end Go.Proofs.Ytijbngdafgmpaaa
