/-
  slices.Clone at rows and at pieces; newPath.
-/
import Derived.Test.YtgfioakidefkdaaLay
namespace Go.Proofs.Ytgfioakidefkdaa
open Go.RowKit

/-- a copied list of pieces: the kids of the first k are new, the others are still those of the list that was copied -/
def PartCopyP (lo0 hi0 lo hi : Nat) (w : World) (b : Nat) (l : List Pc) (n k : Nat) : Prop :=
  ∃ (f : Nat → Value) (R : Nat → Option Addr) (C : Nat → Nat), Blk w b (n * 3) f ∧
    (∀ i, i < n → f (i * 3) = .int .i64 (pat l i).1 ∧ f (i * 3 + 1) = .int .u8 (pat l i).2.1 ∧ f (i * 3 + 2) = .slice (R i) (pat l i).2.2.length (C i)) ∧
    (∀ i, k ≤ i → i < n → RowIn lo0 hi0 w (R i) (pat l i).2.2) ∧
    ∀ i, i < k → RowOwn lo hi w (R i) (pat l i).2.2 ∧ ((pat l i).2.2 ≠ [] → (∀ c, R i = some ⟨c, 0, none⟩ → c ≠ b) ∧ ∀ j, j < i → (pat l j).2.2 ≠ [] → R j ≠ R i)
theorem PartCopyP.below {lo0 hi0 lo hi B b : Nat} {w w' : World} {l : List Pc} {n k : Nat} (h : PartCopyP lo0 hi0 lo hi w b l n k) (hb : Below B w w') (hB : hi ≤ B) (hB0 : hi0 ≤ B) (hl : b < B) : PartCopyP lo0 hi0 lo hi w' b l n k := by
  obtain ⟨f, R, C, h1, h2, h3, h4⟩ := h
  refine ⟨f, R, C, h1.of_block (hb.block b hl), h2, fun i hi hi' => (h3 i hi hi').below hb hB0, fun i hi => ⟨(h4 i hi).1.below hb hB, (h4 i hi).2⟩⟩
theorem PartCopyP.done {lo0 hi0 lo hi : Nat} {w : World} {b : Nat} {l : List Pc} {n : Nat} (h : PartCopyP lo0 hi0 lo hi w b l n n) : PartPc lo hi w b l n n := by
  obtain ⟨f, R, C, h1, h2, _, h4⟩ := h
  exact ⟨f, R, C, h1, fun i hi => ⟨(h2 i hi).1, (h2 i hi).2.1, (h2 i hi).2.2, (h4 i hi).1, (h4 i hi).2⟩⟩
theorem RowOwn.setAway {lo hi b j : Nat} {w : World} {a : Option Addr} {r : List Int} (h : RowOwn lo hi w a r) (hne : r ≠ [] → a ≠ some ⟨b, 0, none⟩) (v : Value) : RowOwn lo hi (w.setCell ⟨b, j, none⟩ v) a r := by
  by_cases h0 : r = []
  · exact .inl h0
  · rcases h with h | ⟨c, e, h3, h4, h5⟩
    · exact absurd h h0
    · have hcb : c ≠ b := by intro e2; subst e2; exact hne h0 e
      exact .inr ⟨c, e, h3, h4, h5.of_block (Below.heap_setCell w _ _ c (by simpa using hcb))⟩
theorem PartCopyP.step {lo0 hi0 lo hi hi' b rc : Nat} {ra : Option Addr} {w : World} {l : List Pc} {n k : Nat} (h : PartCopyP lo0 hi0 lo hi w b l n k) (hk : k < n) (hb0 : hi0 ≤ b) (hb : b < hi) (hr : RowOwn hi hi' w ra (pat l k).2.2) (hlo : lo ≤ hi) (hhi : hi ≤ hi') :
    PartCopyP lo0 hi0 lo hi' (w.setCell ⟨b, k * 3 + 2, none⟩ (.slice ra (pat l k).2.2.length rc)) b l n (k + 1) := by
  obtain ⟨f, R, C, h1, h2, h3, h4⟩ := h
  have hgb : (pat l k).2.2 ≠ [] → ∀ c, ra = some ⟨c, 0, none⟩ → hi ≤ c := by
    intro hne c hc
    rcases hr with h | ⟨c', e, h5, _, _⟩
    · exact absurd h hne
    · rw [hc] at e; simp at e; omega
  refine ⟨_, fun i => if i = k then ra else R i, fun i => if i = k then rc else C i, h1.set (k * 3 + 2) (by omega) _, fun i hin => ?_, fun i hki hin => ?_, fun i hik => ?_⟩
  · have n4 : ¬ i * 3 = k * 3 + 2 := by omega
    have n5 : ¬ i * 3 + 1 = k * 3 + 2 := by omega
    by_cases e : i = k
    · subst e
      refine ⟨by simp only [n4, if_false]; exact (h2 i hin).1, by simp only [n5, if_false]; exact (h2 i hin).2.1, by simp⟩
    · have n2 : ¬ i * 3 + 2 = k * 3 + 2 := by omega
      exact ⟨by simp only [n4, if_false]; exact (h2 i hin).1, by simp only [n5, if_false]; exact (h2 i hin).2.1, by simp only [n2, if_false, e]; exact (h2 i hin).2.2⟩
  · have e : ¬ i = k := by omega
    simp only [e, if_false]
    rcases h3 i (by omega) hin with h | ⟨c, o, ec, h5, h6, h7⟩
    · exact .inl h
    · refine .inr ⟨c, o, ec, h5, h6, fun j hj => ?_⟩
      rw [← h7 j hj]
      unfold World.cell?
      rw [Below.heap_setCell w ⟨b, k * 3 + 2, none⟩ _ c (by simp; omega)]
  · by_cases e : i = k
    · subst e
      simp only [if_true]
      refine ⟨(hr.wide hlo (Nat.le_refl _)).setAway (fun hne e2 => ?_) _, fun hne => ⟨fun c hc => ?_, fun j hj hnj => ?_⟩⟩
      · have := hgb hne b e2; omega
      · have := hgb hne c hc; omega
      · have : ¬ j = i := by omega
        simp only [this, if_false]
        intro e3
        rcases (h4 j hj).1 with h | ⟨c, ec, _, hc, _⟩
        · exact hnj h
        · have := hgb hne c (by rw [← e3]; exact ec); omega
    · simp only [e, if_false]
      have hik' : i < k := by omega
      refine ⟨((h4 i hik').1.setAway (fun hne e2 => ((h4 i hik').2 hne).1 b e2 rfl) _).wide (Nat.le_refl _) hhi, fun hne => ⟨((h4 i hik').2 hne).1, fun j hj hnj => ?_⟩⟩
      have : ¬ j = k := by omega
      simp only [this, if_false]
      exact ((h4 i hik').2 hne).2 j hj hnj

/-- the cells of a list of pieces -/
theorem path_cells {lo hi : Nat} {w : World} {ao : Option Addr} {l : List Pc} (h : PathIn lo hi w ao l) (hne : l ≠ []) : ∃ (b o : Nat) (f : Nat → Value) (R : Nat → Option Addr) (C : Nat → Nat), ao = some ⟨b, o, none⟩ ∧ lo ≤ b ∧ b < hi ∧ (∀ j, j < l.length * 3 → w.cell? ⟨b, o + j, none⟩ = some (f j)) ∧
    ∀ i, i < l.length → (f (i * 3) = .int .i64 (pat l i).1 ∧ f (i * 3 + 1) = .int .u8 (pat l i).2.1 ∧ f (i * 3 + 2) = .slice (R i) (pat l i).2.2.length (C i)) ∧ RowIn lo hi w (R i) (pat l i).2.2 := by
  rcases h with h | ⟨b, o, e, h1, h2, h3⟩
  · exact absurd h hne
  · have each : ∀ i, i < l.length → ∃ q : Option Addr × Nat, w.cell? ⟨b, o + i * 3, none⟩ = some (.int .i64 (pat l i).1) ∧ w.cell? ⟨b, o + i * 3 + 1, none⟩ = some (.int .u8 (pat l i).2.1) ∧ w.cell? ⟨b, o + i * 3 + 2, none⟩ = some (.slice q.1 (pat l i).2.2.length q.2) ∧ RowIn lo hi w q.1 (pat l i).2.2 := by
      intro i hi
      obtain ⟨h4, h5, ra, rc, h6, h7⟩ := h3 i hi
      exact ⟨(ra, rc), h4, h5, h6, h7⟩
    obtain ⟨q, hq⟩ := Go.Deep.choose_lt each
    refine ⟨b, o, fun j => (w.cell? ⟨b, o + j, none⟩).getD (.int .i64 0), fun i => (q i).1, fun i => (q i).2, e, h1, h2, fun j hj => ?_, fun i hi => ⟨⟨?_, ?_, ?_⟩, (hq i hi).2.2.2⟩⟩
    · show w.cell? ⟨b, o + j, none⟩ = some ((w.cell? ⟨b, o + j, none⟩).getD (.int .i64 0))
      have hjd := Nat.div_add_mod j 3
      have hjm := Nat.mod_lt j (show 0 < 3 by omega)
      obtain ⟨c0, c1, c2, _⟩ := hq (j / 3) (by omega)
      rcases (show j % 3 = 0 ∨ j % 3 = 1 ∨ j % 3 = 2 by omega) with h | h | h
      · have e1 : o + j / 3 * 3 = o + j := by omega
        rw [e1] at c0; rw [c0]; rfl
      · have e1 : o + j / 3 * 3 + 1 = o + j := by omega
        rw [e1] at c1; rw [c1]; rfl
      · have e1 : o + j / 3 * 3 + 2 = o + j := by omega
        rw [e1] at c2; rw [c2]; rfl
    · show (w.cell? ⟨b, o + i * 3, none⟩).getD _ = _
      rw [(hq i hi).1]; rfl
    · show (w.cell? ⟨b, o + (i * 3 + 1), none⟩).getD _ = _
      rw [← Nat.add_assoc, (hq i hi).2.1]; rfl
    · show (w.cell? ⟨b, o + (i * 3 + 2), none⟩).getD _ = _
      rw [← Nat.add_assoc, (hq i hi).2.2.1]; rfl
theorem pc_cells_one {f : Nat → Value} {R : Nat → Option Addr} {C : Nat → Nat} {l : List Pc} (h : ∀ i, i < l.length → f (i * 3) = .int .i64 (pat l i).1 ∧ f (i * 3 + 1) = .int .u8 (pat l i).2.1 ∧ f (i * 3 + 2) = .slice (R i) (pat l i).2.2.length (C i)) : ∀ u ∈ (List.range (l.length * 3)).map f, u.oneCell' = true := by
  intro u hu
  obtain ⟨j, hj, rfl⟩ := List.mem_map.1 hu
  have hj' := List.mem_range.1 hj
  have hjd := Nat.div_add_mod j 3
  have hjm := Nat.mod_lt j (show 0 < 3 by omega)
  obtain ⟨c0, c1, c2⟩ := h (j / 3) (by omega)
  rcases (show j % 3 = 0 ∨ j % 3 = 1 ∨ j % 3 = 2 by omega) with h | h | h
  · have e1 : j / 3 * 3 = j := by omega
    rw [e1] at c0; rw [c0]; rfl
  · have e1 : j / 3 * 3 + 1 = j := by omega
    rw [e1] at c1; rw [c1]; rfl
  · have e1 : j / 3 * 3 + 2 = j := by omega
    rw [e1] at c2; rw [c2]; rfl

set_option maxHeartbeats 1000000 in
theorem cloneInts_any (lo hi : Nat) (a : Option Addr) (n cap : Nat) (l : List Int) (w : World) (ha : RowIn lo hi w a l) (hh : hi ≤ w.heap.size) (hn : l.length = n) (hm : n ≤ 1048576) :
    Calls Try.prog 74 #[.slice a n cap] w fun e w' => ∃ a' cap', e = .returned (.slice a' n cap') ∧ Hid (RowOwn w.heap.size w'.heap.size w' a' l) ∧ Hid (Below w.heap.size w w') := by
  obtain ⟨i0, hi0, hz0, hz1, hz2⟩ := info_parts Try.info3
  have q29 : ∀ (w : World) (a : Option Addr) (n c n' c' : Nat), (binOp .eql 36 (.slice a n c) (.slice none n' c')).run Try.prog w = .ok (.bool a.isNone) w := fun w a n c n' c' => Lib.run_eql_slice_nil w _ _ a n c n' c' Try.underlying36
  have HN : Hid (l.length = n) := hn
  have HA : Hid (RowIn lo hi w a l) := ha
  have HH : Hid (hi ≤ w.heap.size) := hh
  clear ha hn hh
  cases a with
  | none =>
    obtain rfl : n = 0 := rowIn_none HA.out HN.out rfl
    go_enter Try.func74, Try.ntmps74
    go_wp2
    go_ret
    exact ⟨none, 0, rfl, .inl (List.length_eq_zero_iff.1 HN.out), Below.refl _ _⟩
  | some ad =>
    go_enter Try.func74, Try.ntmps74
    go_wp2_with (at_builtin; refine wpList_append_row _ rfl _ _ 36 rfl w.heap.size 3 i0 (.int .i64 0) 1 8 Try.underlying36 hi0 hz0 hz1 hz2 rfl (by decide) _ 0 [] rfl (World.ownsRow_made w #[] 0 (Nat.le_refl _) (Nat.zero_le _) rfl) (some ad) n cap (rowCells l) rfl (fun e => by cases e) ?qc1 ?qc2 (rowCells_one l) ?qc4 ?qc5 ?qc6 ?_)
    case qc1 => rw [rowCells_len, HN.out]
    case qc2 => exact rowCells_at (HA.out.below (below1 _ _) HH.out)
    case qc4 => unfold maxLen; omega
    case qc5 => omega
    case qc6 => simp
    intro v' w1 hown hgrow
    go_wp2
    go_ret
    obtain ⟨a', cap', rfl, hr⟩ := rowOwn_of (n := n) (by simpa using hown) HN.out
    exact ⟨a', cap', rfl, hr, (below1 w _).grown hgrow (by simp) (by intro k hk; simp [Value.ownBlock] at hk; omega)⟩

set_option maxHeartbeats 1000000 in
theorem clonePieces_any (lo hi : Nat) (a : Option Addr) (n cap : Nat) (l : List Pc) (w : World) (ha : PathIn lo hi w a l) (hh : hi ≤ w.heap.size) (hn : l.length = n) (hm : n ≤ 1048576) :
    Calls Try.prog 73 #[.slice a n cap] w fun e w' => ∃ a' cap', e = .returned (.slice a' n cap') ∧ Hid (l = [] ∨ ∃ g, a' = some ⟨g, 0, none⟩ ∧ w.heap.size ≤ g ∧ g < w'.heap.size ∧ PartCopyP lo hi w.heap.size w'.heap.size w' g l n 0) ∧ Hid (Below w.heap.size w w') := by
  obtain ⟨i0, hi0, hz0, hz1, hz2⟩ := info_parts Try.info72
  have q24 : ∀ (w : World) (a : Option Addr) (n c n' c' : Nat), (binOp .eql 28 (.slice a n c) (.slice none n' c')).run Try.prog w = .ok (.bool a.isNone) w := fun w a n c n' c' => Lib.run_eql_slice_nil w _ _ a n c n' c' Try.underlying28
  have HN : Hid (l.length = n) := hn
  have HH : Hid (hi ≤ w.heap.size) := hh
  cases a with
  | none =>
    have hl : l = [] := by
      rcases ha with h | ⟨_, _, e, _⟩
      · exact h
      · cases e
    obtain rfl : n = 0 := by rw [← hn, hl]; rfl
    have HL : Hid (l = []) := hl
    clear ha hn hh hl
    go_enter Try.func73, Try.ntmps73
    go_wp2
    go_ret
    exact ⟨none, 0, rfl, .inl HL.out, Below.refl _ _⟩
  | some ad =>
    obtain ⟨f, HF⟩ : ∃ f : Nat → Value, Hid ((∀ j, j < n * 3 → w.cell? (ad.add j) = some (f j)) ∧ (∀ u ∈ (List.range (n * 3)).map f, u.oneCell' = true) ∧ (l ≠ [] → ∃ (R : Nat → Option Addr) (C : Nat → Nat), ∀ i, i < n → (f (i * 3) = .int .i64 (pat l i).1 ∧ f (i * 3 + 1) = .int .u8 (pat l i).2.1 ∧ f (i * 3 + 2) = .slice (R i) (pat l i).2.2.length (C i)) ∧ RowIn lo hi w (R i) (pat l i).2.2)) := by
      by_cases h0 : l = []
      · refine ⟨fun _ => .int .i64 0, ?_, ?_, fun h => absurd h0 h⟩
        · intro j hj; rw [← hn, h0] at hj; simp at hj
        · intro u hu; rw [← hn, h0] at hu; simp at hu
      · obtain ⟨b, o, f, R, C, e, _, _, h3, h4⟩ := path_cells ha h0
        simp only [Option.some.injEq] at e
        subst e
        rw [hn] at h3
        refine ⟨f, fun j hj => by rw [add_none]; exact h3 j hj, ?_, fun _ => ⟨R, C, by rw [← hn]; exact h4⟩⟩
        rw [← hn]
        exact pc_cells_one (fun i hi => (h4 i hi).1)
    clear ha hn hh
    go_enter Try.func73, Try.ntmps73
    go_wp2_with (at_builtin; refine wpList_append_row _ rfl _ _ 28 rfl w.heap.size 72 i0 _ 3 40 Try.underlying28 hi0 hz0 hz1 hz2 rfl (by decide) _ 0 [] rfl (World.ownsRow_made w #[] 0 (Nat.le_refl _) (Nat.zero_le _) rfl) (some ad) n cap ((List.range (n * 3)).map f) rfl (fun e => by cases e) (by simp) ?qc2 HF.out.2.1 ?qc4 ?qc5 ?qc6 ?_)
    case qc2 =>
      intro ad' e j u hu
      cases e
      have hj : j < n * 3 := by have := (List.getElem?_eq_some_iff.1 hu).1; simpa using this
      have hc := HF.out.1 j hj
      simp [hj] at hu
      subst hu
      exact Lib.cell?_alloc_some _ hc
    case qc4 => unfold maxLen; omega
    case qc5 => omega
    case qc6 => simp
    intro v' w1 hown hgrow
    have hbel : Below w.heap.size w w1 := (below1 w _).grown hgrow (by simp) (by intro k hk; simp [Value.ownBlock] at hk; omega)
    go_wp2
    go_ret
    have hown2 : w1.ownsRow w.heap.size 72 3 v' n ((List.range (n * 3)).map f) := by simpa using hown
    rcases hown2.2 with ⟨rfl, h0⟩ | ⟨g, cap', cur, rfl, hg, hb, _⟩
    · exact ⟨none, 0, by rw [h0]; rfl, .inl (List.length_eq_zero_iff.1 (by rw [HN.out, h0])), hbel⟩
    · refine ⟨_, cap', rfl, ?_, hbel⟩
      by_cases h0 : l = []
      · exact .inl h0
      · obtain ⟨R, C, hRC⟩ := HF.out.2.2 h0
        refine .inr ⟨g, rfl, hg, (Array.getElem?_eq_some_iff.1 hb).1, f, R, C, (blk_own hown2).congr (fun i hi => by simp [List.getD, hi]), fun i hi => (hRC i hi).1, fun i _ hi => (hRC i hi).2.below hbel HH.out, fun i hi => absurd hi (by omega)⟩

set_option maxHeartbeats 2000000 in
set_option maxRecDepth 100000 in
theorem newPath_any (lo hi : Nat) (a : Option Addr) (n cap : Nat) (l : List Pc) (w : World) (ha : PathIn lo hi w a l) (hh : hi ≤ w.heap.size) (hn : l.length = n) (hm : n ≤ 1048576) (hq : ∀ i, i < n → (pat l i).2.2.length ≤ 1048576) :
    Calls Try.prog 37 #[pv a n cap] w fun e w' => ∃ a' cap', e = .returned (pv a' n cap') ∧ Hid (PathOwn w.heap.size w'.heap.size w' a' l) ∧ Hid (Below w.heap.size w w') := by
  have HN : Hid (l.length = n) := hn
  have HA : Hid (PathIn lo hi w a l) := ha
  have HH : Hid (hi ≤ w.heap.size) := hh
  have HQ : Hid (∀ i, i < n → (pat l i).2.2.length ≤ 1048576) := hq
  clear ha hh hn hq
  go_enter Try.func37, Try.ntmps37
  go_wp2_with fail
  refine (clonePieces_any lo hi a n cap l _ (HA.out.below (below2 w _ _) HH.out) (by have := HH.out; simp; omega) HN.out hm).mono ?_
  rintro e w1 ⟨a1, cap1, rfl, H1, H2⟩
  have hb1 := H2.out
  have k1 : Blk w1 (w.heap.size + 1) 1 (fun _ => .slice none 0 0) := (blk_one (w.alloc (.cells #[.slice a n cap] 30)) (w.heap.size + 1) (by simp) (.slice none 0 0) 30).of_block (hb1.block (w.heap.size + 1) (by simp))
  have HK1 : Hid (Blk w1 (w.heap.size + 1) 1 (fun _ => .slice none 0 0)) := k1
  have HB1 : Hid (Below w.heap.size w w1) := (below2 w _ _).trans (hb1.mono (by simp; omega))
  have HP1 : Hid (l = [] ∨ ∃ g, a1 = some ⟨g, 0, none⟩ ∧ w.heap.size + 2 ≤ g ∧ g < w1.heap.size ∧ PartCopyP lo hi (w.heap.size + 2) w1.heap.size w1 g l n 0) := by
    have h := H1.out
    simp only [World.size_alloc] at h
    exact h
  clear k1 hb1 H1 H2
  by_cases h0 : n = 0
  · subst h0
    have c1 := HK1.out.cell (i := 0) (by omega)
    have f1 := HK1.out.frozen 0
    go_wp2
    go_loop [10] (fun i => i = .int .i64 0) (fun _ => 0)
    case atStart => rfl
    case round =>
      subst hrel
      go_wp2
      refine bodyPost_ret (v := .agg #[.slice a1 0 cap1]) (by simp [results, Try.results37, go_sem, c1]) rfl ?_
      exact ⟨a1, ⟨cap1, rfl⟩, .inl (List.length_eq_zero_iff.1 HN.out), HB1.out.setCell (by simp) _⟩
  · obtain ⟨g, rfl, hg1, hg2, hp⟩ : ∃ g, a1 = some ⟨g, 0, none⟩ ∧ w.heap.size + 2 ≤ g ∧ g < w1.heap.size ∧ PartCopyP lo hi (w.heap.size + 2) w1.heap.size w1 g l n 0 := by
      rcases HP1.out with h | h
      · exact absurd HN.out (by rw [h]; simp; omega)
      · exact h
    have HG : Hid (w.heap.size + 2 ≤ g) := hg1
    have HP0 : Hid (PartCopyP lo hi (w.heap.size + 2) w1.heap.size w1 g l n 0) := hp
    have HG2 : Hid (g < w1.heap.size) := hg2
    clear hg1 hg2 hp HP1
    go_wp2
    go_loopw [10] (fun i wr => ∃ k : Nat, i = .int .i64 k ∧ k ≤ n ∧ Hid (PartCopyP lo hi (w.heap.size + 2) wr.heap.size wr g l n k) ∧ Hid (Below w.heap.size w wr) ∧ Hid (g < wr.heap.size) ∧ Hid (Blk wr (w.heap.size + 1) 1 (fun _ => .slice none 0 0))) (fun i _ => n - (intOf i).toNat)
    case atStart => exact ⟨0, rfl, by omega, HP0, HB1, HG2, HK1⟩
    case round =>
      obtain ⟨k, rfl, hk, HP, HL, HGR, HK⟩ := hrel
      by_cases hlt : k < n
      · have hlt1 : (k : Int) < (n : Int) := by omega
        have hlt0 : (0 : Int) ≤ (k : Int) := by omega
        obtain ⟨f, R, C, hblk, h2, h3, _⟩ := HP.out
        obtain ⟨ra, HRA⟩ : ∃ ra, Hid (ra = R k) := ⟨_, rfl⟩
        obtain ⟨rc, HRC⟩ : ∃ rc, Hid (rc = C k) := ⟨_, rfl⟩
        obtain ⟨q, HQ1⟩ : ∃ q : Nat, Hid (q = (pat l k).2.2.length) := ⟨_, rfl⟩
        have hc1 := hblk.cell (i := k * 3 + 2) (by omega)
        rw [(h2 k hlt).2.2, ← HQ1.out, ← HRA.out, ← HRC.out] at hc1
        have HROW : Hid (RowIn lo hi wr ra (pat l k).2.2) := by rw [HRA.out]; exact h3 k (Nat.le_refl _) hlt
        have hq : q ≤ 1048576 := by rw [HQ1.out]; exact HQ.out k hlt
        have hsz : hi ≤ wr.heap.size := Nat.le_trans HH.out HL.out.size
        clear hblk h2 h3
        go_wp2_with fail
        refine (cloneInts_any lo hi ra q rc (pat l k).2.2 wr HROW.out hsz HQ1.out.symm hq).mono ?_
        rintro e w2 ⟨ra', rc', rfl, X2, B2⟩
        have HP2 : Hid (PartCopyP lo hi (w.heap.size + 2) wr.heap.size w2 g l n k) := HP.out.below B2.out (Nat.le_refl _) hsz HGR.out
        have HS2 : Hid (wr.heap.size ≤ w2.heap.size) := B2.out.size
        have HB2 : Hid (Below w.heap.size w w2) := HL.out.trans (B2.out.mono HL.out.size)
        have HK2 : Hid (Blk w2 (w.heap.size + 1) 1 (fun _ => .slice none 0 0)) := HK.out.of_block (B2.out.block _ HK.out.lt)
        obtain ⟨f2, R2, C2, hblk2, _⟩ := HP2.out
        have hd1 := hblk2.cell (i := k * 3 + 2) (by omega)
        have hf1 := hblk2.frozen (k * 3 + 2)
        clear hblk2 hc1 B2 hsz
        go_wp2
        go_roundw
        case rel =>
          have hge := HG.out; have hgr := HGR.out; have hs2 := HS2.out; have hhh := HH.out
          have hst := HP2.out.step (rc := rc') hlt (by omega) HGR.out X2.out (by omega) HS2.out
          rw [← HQ1.out] at hst
          refine ⟨k + 1, by go_num, by omega, ?_, HB2.out.setCell (by simp; omega) _, by show _ < _; simp; omega, HK2.out.of_block (Below.heap_setCell _ _ _ _ (by simp; omega))⟩
          show PartCopyP _ _ _ _ _ _ _ _ _
          simpa using hst
        case measure => simp [intOf]; omega
      · obtain rfl : k = n := by omega
        have c1 := HK.out.cell (i := 0) (by omega)
        have f1 := HK.out.frozen 0
        go_wp2
        refine bodyPost_ret (v := .agg #[.slice (some ⟨g, 0, none⟩) k cap1]) (by simp [results, Try.results37, go_sem, c1]) rfl ?_
        refine ⟨_, cap1, rfl, ?_, HL.out.setCell (by simp) _⟩
        have hge := HG.out; have hgr := HGR.out
        have hown : PathOwn (w.heap.size + 2) wr.heap.size wr (some ⟨g, 0, none⟩) l := .inr ⟨g, rfl, HG.out, HGR.out, by rw [HN.out]; exact HP.out.done⟩
        exact (hown.setCell (by omega) _).wide (by omega) (by simp)
end Go.Proofs.Ytgfioakidefkdaa
