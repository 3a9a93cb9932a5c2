/-
  The model's BagEach.
-/
import Derived.Test.YtijbngdafgmpaaaCopyS
namespace Go.Proofs.Ytijbngdafgmpaaa
open Go.RowKit

theorem map_set {f : Nat → Value} {n j : Nat} {u : Value} : ((List.range n).map f).set j u = (List.range n).map (fun i => if i = j then u else f i) := by
  apply List.ext_getElem (by simp)
  intro i h1 h2
  simp at h1 h2
  simp [List.getElem_set]
  by_cases e : j = i
  · simp [e]
  · simp [e, Ne.symm e]

/-- one item's Times in place, in a list that was laid -/
theorem Laid.each {B g n cap k : Nat} {w : World} {l : List It} (h : Laid B w (.slice (some ⟨g, 0, none⟩) n cap) (eachTo l k)) (hn : l.length = n) (hk : k < n) : Laid B (w.setCell ⟨g, k * 2 + 1, none⟩ (.int .i64 1)) (.slice (some ⟨g, 0, none⟩) n cap) (eachTo l (k + 1)) := by
  obtain ⟨f, R, C, h1, h2⟩ := h
  have e0 : (eachTo l k).length = n := by rw [eachTo_len, hn]
  have e1 : (eachTo l (k + 1)).length = n := by rw [eachTo_len, hn]
  rw [e0] at h1 h2
  refine ⟨fun i => if i = k * 2 + 1 then .int .i64 1 else f i, R, C, ?_, ?_⟩
  · rw [e1, ← map_set]
    exact (h1.stored (k * 2 + 1) _).1
  · rw [e1]
    intro i hi
    obtain ⟨⟨p1, p2⟩, p3, p4⟩ := h2 i hi
    have n1 : ¬ i * 2 = k * 2 + 1 := by omega
    rw [eachTo_row (by omega)] at p1 p3 p4
    rw [eachTo_at (by omega)] at p2
    refine ⟨⟨?_, ?_⟩, ?_, ?_⟩
    · rw [eachTo_row (by omega)]; simp only [n1, if_false]; exact p1
    · rw [eachTo_at (by omega)]
      by_cases e : i = k
      · subst e; simp
      · have n2 : ¬ i * 2 + 1 = k * 2 + 1 := by omega
        simp only [n2, if_false]
        rw [p2]
        by_cases e2 : i < k
        · rw [if_pos e2, if_pos (by omega)]
        · rw [if_neg e2, if_neg (by omega)]
    · rw [eachTo_row (by omega)]
      by_cases h0 : (at' l i).1 = []
      · exact .inl h0
      · rcases p3 with h | ⟨c, o, e, h3, h4, h5⟩
        · exact absurd h h0
        · refine .inr ⟨c, o, e, h3, by simpa using h4, fun j hj => cell_set (h5 j hj) _ ?_⟩
          intro e2
          exact p4 h0 c o e (by rw [e2]; rfl)
    · rw [eachTo_row (by omega)]; exact p4

set_option maxHeartbeats 2000000 in
set_option maxRecDepth 100000 in
theorem specEach_any (lo hi : Nat) (a : Option Addr) (n cap : Nat) (l : List It) (w : World) (ha : BagIn lo hi w a l) (hh : hi ≤ w.heap.size) (hn : l.length = n) (hm : n ≤ 1048576) (hq : ∀ i, i < n → (at' l i).1.length ≤ 1048576) :
    Calls Try.prog 48 #[.agg #[.slice a n cap]] w fun e w' => ∃ a' cap', e = .returned (.agg #[.slice a' n cap']) ∧ Hid (BagIn w.heap.size w'.heap.size w' a' (eachOf l)) ∧ Hid (Below w.heap.size w w') := by
  have HN : Hid (l.length = n) := hn
  have HA : Hid (BagIn lo hi w a l) := ha
  have HH : Hid (hi ≤ w.heap.size) := hh
  have HQ : Hid (∀ i, i < n → (at' l i).1.length ≤ 1048576) := hq
  clear ha hh hn hq
  go_enter Try.func48, Try.ntmps48
  go_wp2_with fail
  refine (l03Copy_any lo hi a n cap l _ (HA.out.below (below2 w _ _) HH.out) (by have := HH.out; simp; omega) HN.out hm HQ.out).mono ?_
  rintro e w1 ⟨v1, rfl, H1, H2⟩
  have hb1 := H2.out
  have HK1 : Hid (Blk w1 (w.heap.size + 1) 1 (fun _ => .slice none 0 0)) := (blk_one (w.alloc (.cells #[.slice a n cap] 26)) (w.heap.size + 1) (by simp) (.slice none 0 0) 26).of_block (hb1.block (w.heap.size + 1) (by simp))
  have HB1 : Hid (Below w.heap.size w w1) := (below2 w _ _).trans (hb1.mono (by simp; omega))
  obtain ⟨a1, cap1, rfl, _⟩ := H1.out.toIn
  have HP1 : Hid (Laid (w.heap.size + 1 + 1 + 3) w1 (.slice a1 n cap1) (eachTo l 0)) := by
    have h := H1.out
    simp only [World.size_alloc] at h
    rw [HN.out] at h
    rw [eachTo_zero]
    exact h
  rw [HN.out]
  clear hb1 H1 H2
  go_wp2
  go_loopw [4] (fun i wr => ∃ k : Nat, i = .int .i64 k ∧ k ≤ n ∧ Hid (Laid (w.heap.size + 1 + 1 + 3) wr (.slice a1 n cap1) (eachTo l k)) ∧ Hid (Below w.heap.size w wr) ∧ Hid (Blk wr (w.heap.size + 1) 1 (fun _ => .slice none 0 0)) ∧ Hid (Blk wr w1.heap.size 1 (fun _ => .slice a1 n cap1)) ∧ Hid (∀ g, a1 = some ⟨g, 0, none⟩ → g < w1.heap.size)) (fun i _ => n - (intOf i).toNat)
  case atStart =>
    refine ⟨0, rfl, by omega, HP1.out.below (below1' w1 _), HB1.out.alloc HB1.out.size _, HK1.out.alloc _, blk_one w1 _ rfl _ _, ?_⟩
    intro g hg
    subst hg
    obtain ⟨f, R, C, h1, _⟩ := HP1.out
    exact (h1.lt g rfl).2
  case round =>
    obtain ⟨k, rfl, hk, HP, HL, HK, HX, HG⟩ := hrel
    have cx := HX.out.cell (i := 0) (by omega)
    by_cases hlt : k < n
    · have hlt1 : (k : Int) < (n : Int) := by omega
      obtain ⟨f, R, C, h1, _⟩ := HP.out
      rw [eachTo_len, HN.out] at h1
      obtain ⟨g, c', hv⟩ : ∃ g c', Value.slice a1 n cap1 = .slice (some ⟨g, 0, none⟩) n c' := by
        rcases h1.2 with ⟨_, h0⟩ | ⟨g, c', _, e, _⟩
        · omega
        · exact ⟨g, c', e⟩
      simp only [Value.slice.injEq, true_and] at hv
      obtain ⟨rfl, rfl⟩ := hv
      have hge := (h1.lt g rfl).1
      have HGE : Hid (w.heap.size + 1 + 1 + 3 ≤ g) := hge
      have hbk := blk_own h1
      have hd1 := hbk.cell (i := k * 2 + 1) (by omega)
      have hf1 := hbk.frozen (k * 2 + 1)
      clear hbk h1 hge
      go_wp2
      go_roundw
      case rel =>
        have hge := HGE.out
        have hgl := HG.out g rfl
        exact ⟨k + 1, by go_num, by omega, HP.out.each HN.out hlt, HL.out.setCell (by simp; omega) _, HK.out.of_block (Below.heap_setCell _ _ _ _ (by simp; omega)), HX.out.of_block (Below.heap_setCell _ _ _ _ (by simp; omega)), HG⟩
      case measure => simp [intOf]; omega
    · obtain rfl : k = n := by omega
      have c1 := HK.out.cell (i := 0) (by omega)
      have f1 := HK.out.frozen 0
      go_wp2
      refine bodyPost_ret (v := .agg #[.slice a1 k cap1]) (by simp [results, Try.results48, go_sem, c1]) rfl ?_
      refine ⟨a1, cap1, rfl, ?_, HL.out.setCell (by simp) _⟩
      have hfin : Laid (w.heap.size + 1 + 1 + 3) (wr.setCell ⟨w.heap.size + 1, 0, none⟩ (.slice a1 k cap1)) (.slice a1 k cap1) (eachOf l) := by
        rw [← eachTo_all, HN.out]
        exact HP.out.setCell (by omega) _
      obtain ⟨a2, cap2, e2, hin⟩ := hfin.toIn
      simp only [Value.slice.injEq] at e2
      obtain ⟨rfl, _, _⟩ := e2
      exact hin.wide (by omega) (Nat.le_refl _)
end Go.Proofs.Ytijbngdafgmpaaa
