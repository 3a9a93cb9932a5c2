/-
  The model's l03Copy and BagEach.
-/
import Derived.Test.YtelikebpddhncaaEach
namespace Go.Proofs.Ytelikebpddhncaa
open Go.RowKit

theorem take_snoc (l : List It) {k : Nat} (h : k < l.length) : l.take (k + 1) = l.take k ++ [at' l k] := by
  rw [List.take_add_one]; simp [at', List.getD, h]

theorem Laid.setCell {B c j : Nat} {w : World} {v : Value} {l : List It} (h : Laid B w v l) (hc : c < B) (u : Value) : Laid B (w.setCell ⟨c, j, none⟩ u) v l :=
  h.kept (p := fun k => k = c) ((KeptP.refl (fun k => k = c) w).setCell (g := c) rfl u) (fun k hk => by omega)

/-- behind the row's copy -/
theorem row_made {wr w2 : World} {v1 : Value} {q : Nat} {r : List Int} (hq : r.length = q) (hown : w2.ownsRow wr.heap.size 3 1 v1 (0 + q) ([] ++ rowCells r)) (hg : (wr.drew.alloc (.cells #[] 3)).grownBy w2 (some wr.heap.size)) :
    (∃ a1 cap1, v1 = .slice a1 q cap1 ∧ RowOwn wr.heap.size w2.heap.size w2 a1 r) ∧ Below wr.heap.size wr w2 := by
  rw [Nat.zero_add, List.nil_append] at hown
  refine ⟨rowOwn_of hown hq, ?_⟩
  have h1 : Below wr.heap.size wr (wr.drew.alloc (.cells #[] 3)) := (Below.refl _ _).drew.alloc (Nat.le_refl _) _
  exact h1.grown hg (by simp) (by intro k hk; cases hk; exact Nat.le_refl _)

/-- behind the item's append -/
theorem item_made {B : Nat} {wr w2 w3 : World} {v v' : Value} {l : List It} {x : It} {f : Nat → Value} {R : Nat → Option Addr} {C : Nat → Nat} {a1 : Option Addr} {cap1 : Nat}
    (h2 : ∀ i, i < l.length → (f (i * 2) = .slice (R i) (at' l i).1.length (C i) ∧ f (i * 2 + 1) = .int .i64 (at' l i).2) ∧ RowIn B wr.heap.size wr (R i) (at' l i).1 ∧ Off v (R i) (at' l i).1)
    (hv : ∀ k, v.ownBlock = some k → k < wr.heap.size) (hb : Below wr.heap.size wr w2) (hB : B ≤ wr.heap.size) (hr : RowOwn wr.heap.size w2.heap.size w2 a1 x.1) {o : Obj} (hg : (w2.alloc o).grownBy w3 v.ownBlock) (hloc : v'.ownBlock = v.ownBlock ∨ v'.ownBlock = some (w2.heap.size + 1))
    (ho : w3.ownsRow B 77 2 v' (l.length + 1) ((List.range (l.length * 2)).map f ++ [.slice a1 x.1.length cap1, .int .i64 x.2])) : Laid B w3 v' (l ++ [x]) := by
  have hba : Below w2.heap.size w2 (w2.alloc o) := below1' w2 o
  have hbw : Below wr.heap.size wr (w2.alloc o) := hb.trans (hba.mono hb.size)
  refine Laid.snoc (w := w2.alloc o) (fun i hi => ⟨(h2 i hi).1, ((h2 i hi).2.1.below hbw (Nat.le_refl _)).wide (Nat.le_refl _) hbw.size, (h2 i hi).2.2⟩) ((hr.below hba (Nat.le_refl _)).toIn.wide hB hba.size) ?_ hg (by simpa using hloc) ho
  intro hne c o' e hc
  rcases hr with h | ⟨c', e2, h3, _⟩
  · exact hne h
  · rw [e] at e2
    simp only [Option.some.injEq, Addr.mk.injEq] at e2
    have := hv c hc
    omega

theorem below_more {wr w2 : World} (h : Below wr.heap.size wr w2) (o : Obj) : Below wr.heap.size wr (w2.alloc o) := h.alloc h.size o
theorem three {w w' : World} {b c o p q B : Nat} {u v t : Value} (h1 : w.cell? ⟨b, o, none⟩ = some u) (h2 : w.cell? ⟨c, p, none⟩ = some v) (h3 : w.cell? ⟨c, q, none⟩ = some t) (hb : Below B w w') (hl : b < B) (hl' : c < B) : w'.cell? ⟨b, o, none⟩ = some u ∧ w'.cell? ⟨c, p, none⟩ = some v ∧ w'.cell? ⟨c, q, none⟩ = some t :=
  ⟨cell_below h1 hb hl, cell_below h2 hb hl', cell_below h3 hb hl'⟩
theorem three' {w w' : World} {b c o p q B : Nat} {u v t : Value} (h : w.cell? ⟨b, o, none⟩ = some u ∧ w.cell? ⟨c, p, none⟩ = some v ∧ w.cell? ⟨c, q, none⟩ = some t) (hb : Below B w w') (hl : b < B) (hl' : c < B) : w'.cell? ⟨b, o, none⟩ = some u ∧ w'.cell? ⟨c, p, none⟩ = some v ∧ w'.cell? ⟨c, q, none⟩ = some t := three h.1 h.2.1 h.2.2 hb hl hl'
theorem cell_set {w : World} {b o c j : Nat} {v : Value} (h : w.cell? ⟨b, o, none⟩ = some v) (u : Value) (hne : b ≠ c) : (w.setCell ⟨c, j, none⟩ u).cell? ⟨b, o, none⟩ = some v := by
  rw [← h]; unfold World.cell?; rw [Below.heap_setCell w ⟨c, j, none⟩ u b (by simpa using hne)]
theorem three_set {w : World} {b c o p q d j : Nat} {u v t : Value} (h : w.cell? ⟨b, o, none⟩ = some u ∧ w.cell? ⟨c, p, none⟩ = some v ∧ w.cell? ⟨c, q, none⟩ = some t) (x : Value) (hl : b ≠ d) (hl' : c ≠ d) : (w.setCell ⟨d, j, none⟩ x).cell? ⟨b, o, none⟩ = some u ∧ (w.setCell ⟨d, j, none⟩ x).cell? ⟨c, p, none⟩ = some v ∧ (w.setCell ⟨d, j, none⟩ x).cell? ⟨c, q, none⟩ = some t :=
  ⟨cell_set h.1 x hl, cell_set h.2.1 x hl', cell_set h.2.2 x hl'⟩
theorem news_two (w2 : World) (x y : Value) (T : TypeId) : ∀ j u, [x, y][j]? = some u → (w2.alloc (.cells #[x, y] T)).cell? ((⟨w2.heap.size, 0, none⟩ : Addr).add j) = some u := by
  intro j u hu
  have hk := blk_two w2 w2.heap.size rfl x y T
  rw [add_none, Nat.zero_add]
  rcases j with _ | _ | j
  · simp at hu; subst hu; exact hk.cell (i := 0) (by omega)
  · simp at hu; subst hu; exact hk.cell (i := 1) (by omega)
  · simp at hu
theorem grown_below {B : Nat} {w0 w w3 : World} {e : TypeId} {s n : Nat} {v : Value} {xs : List Value} (hg : w.grownBy w3 v.ownBlock) (ho : w0.ownsRow B e s v n xs) (hB : B ≤ w.heap.size) : Below B w w3 :=
  (Below.refl _ _).grown hg hB (fun k hk => (ho.lt k hk).1)
theorem frozen_below {w w1 w2 : World} {b o B B' : Nat} (h : w.frozen? ⟨b, o, none⟩ = false) (h1 : Below B w w1) (h2 : Below B' w1 w2) (hl : b < B) (hl' : b < B') : w2.frozen? ⟨b, o, none⟩ = false := by
  rw [h2.frozen (p := ⟨b, o, none⟩) hl', h1.frozen (p := ⟨b, o, none⟩) hl]; exact h

set_option maxHeartbeats 4000000 in
set_option maxRecDepth 100000 in
theorem l03Copy_any (lo hi : Nat) (a : Option Addr) (n cap : Nat) (l : List It) (w : World) (ha : BagIn lo hi w a l) (hh : hi ≤ w.heap.size) (hn : l.length = n) (hm : n ≤ 1048576) (hq : ∀ i, i < n → (at' l i).1.length ≤ 1048576) :
    Calls Try.prog 96 #[.agg #[.slice a n cap]] w fun e w' => ∃ v, e = .returned (.agg #[v]) ∧ Hid (Laid (w.heap.size + 1 + 1 + 1) w' v l) ∧ Hid (Below w.heap.size w w') := by
  have HN : Hid (l.length = n) := hn
  have HA : Hid (BagIn lo hi w a l) := ha
  have HH : Hid (hi ≤ w.heap.size) := hh
  have HQ : Hid (∀ i, i < n → (at' l i).1.length ≤ 1048576) := hq
  obtain ⟨i0, hi0, hz0, hz1, hz2⟩ := info_parts Try.info3
  obtain ⟨i1, hj0, hy0, hy1, hy2⟩ := info_parts Try.info77
  clear ha hh hn hq
  go_enter Try.func96, Try.ntmps96
  go_wp2
  go_loopw [4] (fun i wr => ∃ (k : Nat) (v : Value), i = .int .i64 k ∧ k ≤ n ∧ Hid (Laid (w.heap.size + 1 + 1 + 1) wr v (l.take k)) ∧ Hid (Below w.heap.size w wr) ∧ Hid (Blk wr w.heap.size 1 (fun _ => .slice a n cap)) ∧ Hid (Blk wr (w.heap.size + 1) 1 (fun _ => .slice none 0 0)) ∧ Hid (Blk wr (w.heap.size + 1 + 1) 1 (fun _ => v)) ∧ Hid (w.heap.size + 1 + 1 + 1 ≤ wr.heap.size)) (fun i _ => n - (intOf i).toNat)
  case atStart =>
    refine ⟨0, .slice none 0 0, rfl, by omega, Laid.nil _ _, below3 w _ _ _, ((blk_one w _ rfl _ _).alloc _).alloc _, (blk_one _ _ (by simp) _ _).alloc _, blk_one _ _ (by simp) _ _, by show _ ≤ _; simp⟩
  case round =>
    obtain ⟨k, v, rfl, hk, HD, HL, HK0, HK1, HK2, HS⟩ := hrel
    have c0 := HK0.out.cell (i := 0) (by omega)
    by_cases hlt : k < n
    · have hlt1 : (k : Int) < (n : Int) := by omega
      have c2 := HK2.out.cell (i := 0) (by omega)
      have f2 := HK2.out.frozen 0
      obtain ⟨b, o, rfl, _, hbh, ra, rc, hc1, hrow, hc2⟩ := (HA.out.below HL.out HH.out).item (k := k) (by rw [HN.out]; exact hlt)
      have HROW : Hid (RowIn lo hi wr ra (at' l k).1) := hrow
      obtain ⟨t, HT⟩ : ∃ t : Int, Hid (t = (at' l k).2) := ⟨_, rfl⟩
      obtain ⟨q, HQ1⟩ : ∃ q : Nat, Hid (q = (at' l k).1.length) := ⟨_, rfl⟩
      change wr.cell? _ = some (.slice ra (at' l k).1.length rc) at hc1
      change wr.cell? _ = some (.int .i64 (at' l k).2) at hc2
      rw [← HQ1.out] at hc1
      rw [← HT.out] at hc2
      have hq : q ≤ 1048576 := by rw [HQ1.out]; exact HQ.out k hlt
      have hbw : b < wr.heap.size := lt_of_cell hc1
      have HHW : Hid (hi ≤ wr.heap.size) := Nat.le_trans HH.out HL.out.size
      have HBB : Hid (b < w.heap.size + 1 + 1 + 1) := by have := HH.out; show _ < _; omega
      have HBB' : Hid (b ≠ w.heap.size + 1 + 1) := by have := HH.out; show _ ≠ _; omega
      clear hbh hrow
      obtain ⟨f, R, C, hown, hrows⟩ := HD.out
      have hlk : (l.take k).length = k := by rw [List.length_take, HN.out]; omega
      have HOWN : Hid (wr.ownsRow (w.heap.size + 1 + 1 + 1) 77 2 v k ((List.range (k * 2)).map f)) := by rw [hlk] at hown; exact hown
      have HROWS : Hid (∀ i, i < (l.take k).length → (f (i * 2) = .slice (R i) (at' (l.take k) i).1.length (C i) ∧ f (i * 2 + 1) = .int .i64 (at' (l.take k) i).2) ∧ RowIn (w.heap.size + 1 + 1 + 1) wr.heap.size wr (R i) (at' (l.take k) i).1 ∧ Off v (R i) (at' (l.take k) i).1) := hrows
      have HLK : Hid ((l.take k).length = k) := hlk
      have HNB : Hid (Below wr.heap.size wr (wr.drew.alloc (.cells #[] 3))) := (Below.refl _ _).drew.alloc (Nat.le_refl _) _
      have c2n := cell_below c2 HNB.out HK2.out.lt
      have c2m : (wr.alloc (.cells #[] 3)).drew.cell? ⟨w.heap.size + 1 + 1, 0, none⟩ = some v := c2n
      have c2k : (wr.alloc (.cells #[] 3)).cell? ⟨w.heap.size + 1 + 1, 0, none⟩ = some v := c2n
      clear hown hrows hlk
      go_wp2_with fail
      refine wp_region_held_drew (S := fun w' => w'.cell? ⟨w.heap.size, 0, none⟩ = some (.slice (some ⟨b, o, none⟩) n cap) ∧ w'.cell? ⟨b, o + k * 2, none⟩ = some (.slice ra q rc) ∧ w'.cell? ⟨b, o + k * 2 + 1, none⟩ = some (.int .i64 t)) (by kernel_rfl) ⟨c0, hc1, hc2⟩ (fun hHeld => ?_)
      refine wpAnyH_take (i := 0) (oi := _) (v := ?_) rfl (by kernel_rfl) (by kernel_rfl) (by kernel_rfl) (fun _ _ _ h => h) (Or.inl ⟨by rfl, ?_⟩) (by assumption) ?_
      rotate_left
      · intro w hSw; (try dsimp only at hSw); go_simp; try with_reducible rfl
      simp only [Act.put]
      refine wpAnyH_take (i := 3) (oi := _) (v := ?_) rfl (by kernel_rfl) (by kernel_rfl) (by kernel_rfl) (fun _ _ _ h => h) (Or.inl ⟨by rfl, ?_⟩) (by assumption) ?_
      rotate_left
      · intro w hSw; (try dsimp only at hSw); go_simp; try with_reducible rfl
      simp only [Act.put]
      refine wpAnyH_take (i := 4) (oi := _) (v := ?_) rfl (by kernel_rfl) (by kernel_rfl) (by kernel_rfl) (fun _ _ _ h => h) (Or.inl ⟨by rfl, ?_⟩) (by assumption) ?_
      rotate_left
      · intro w hSw; (try dsimp only at hSw); go_simp; try with_reducible rfl
      simp only [Act.put]
      refine wpAnyH_take (i := 5) (oi := _) (v := ?_) rfl (by kernel_rfl) (by kernel_rfl) (by kernel_rfl) (fun _ _ _ h => h) (Or.inl ⟨by rfl, ?_⟩) (by assumption) ?_
      rotate_left
      · intro w hSw; (try dsimp only at hSw); go_simp; try with_reducible rfl
      simp only [Act.put]
      refine wpAnyH_take (i := 6) (oi := _) (v := ?_) rfl (by kernel_rfl) (by kernel_rfl) (by kernel_rfl) (fun _ _ _ h => h) (Or.inl ⟨by rfl, ?_⟩) (by assumption) ?_
      rotate_left
      · intro w hSw; (try dsimp only at hSw); go_simp; try with_reducible rfl
      simp only [Act.put]
      refine wpAnyH_take (i := 7) (oi := _) (v := ?_) rfl (by kernel_rfl) (by kernel_rfl) (by kernel_rfl) (fun _ _ _ h => h) (Or.inl ⟨by rfl, ?_⟩) (by assumption) ?_
      rotate_left
      · intro w hSw; (try dsimp only at hSw); go_simp; try with_reducible rfl
      simp only [Act.put]
      refine wpAnyH_take (i := 8) (oi := _) (v := ?_) rfl (by kernel_rfl) (by kernel_rfl) (by kernel_rfl) (fun _ _ _ h => h) (Or.inl ⟨by rfl, ?_⟩) (by assumption) ?_
      rotate_left
      · intro w hSw; (try dsimp only at hSw); go_simp; try with_reducible rfl
      simp only [Act.put]
      refine wpAnyH_take (i := 10) (oi := _) (v := ?_) rfl (by kernel_rfl) (by kernel_rfl) (by kernel_rfl) (fun _ _ _ h => h) (Or.inl ⟨by rfl, ?_⟩) (by assumption) ?_
      rotate_left
      · intro w hSw; (try dsimp only at hSw); go_simp; try with_reducible rfl
      simp only [Act.put]
      refine wpAnyH_take (i := 11) (oi := _) (v := ?_) rfl (by kernel_rfl) (by kernel_rfl) (by kernel_rfl) (fun _ _ _ h => h) (Or.inl ⟨by rfl, ?_⟩) (by assumption) ?_
      rotate_left
      · intro w hSw; (try dsimp only at hSw); go_simp; try with_reducible rfl
      simp only [Act.put]
      refine wpAnyH_take (i := 12) (oi := _) (v := ?_) rfl (by kernel_rfl) (by kernel_rfl) (by kernel_rfl) (fun _ _ _ h => h) (Or.inl ⟨by rfl, ?_⟩) (by assumption) ?_
      rotate_left
      · intro w hSw; (try dsimp only at hSw); go_simp; try with_reducible rfl
      simp only [Act.put]
      refine wpAnyH_take (i := 13) (oi := _) (v := ?_) rfl (by kernel_rfl) (by kernel_rfl) (by kernel_rfl) (fun _ _ _ h => h) (Or.inl ⟨by rfl, ?_⟩) (by assumption) ?_
      rotate_left
      · intro w hSw; (try dsimp only at hSw); go_simp; try with_reducible rfl
      simp only [Act.put]
      refine wpAnyH_take (i := 14) (oi := _) (v := ?_) rfl (by kernel_rfl) (by kernel_rfl) (by kernel_rfl) (fun _ _ _ h => h) (Or.inl ⟨by rfl, ?_⟩) (by assumption) ?_
      rotate_left
      · intro w hSw; (try dsimp only at hSw); go_simp; try with_reducible rfl
      simp only [Act.put]
      refine wpAnyH_take (i := 15) (oi := _) (v := ?_) rfl (by kernel_rfl) (by kernel_rfl) (by kernel_rfl) (fun _ _ _ h => h) (Or.inl ⟨by rfl, ?_⟩) (by assumption) ?_
      rotate_left
      · intro w hSw; (try dsimp only at hSw); go_simp; try with_reducible rfl
      simp only [Act.put]
      refine wpAnyH_ready (rs := [1, 2]) (by kernel_rfl) (by simp) ?_
      refine AllReadyH.cons rfl (fun K hK => ?_) ?_
      · go_simp
        refine hK.out _ _ hHeld (fun hHeld => ?_)
        clear hK K
        refine wpAnyH_ready (rs := [2]) (by kernel_rfl) (by simp) ?_
        refine AllReadyH.cons rfl (fun K hK => ?_) ?_
        · go_simp
          refine hK.out _ _ (⟨cell_below c0 HNB.out HK0.out.lt, cell_below hc1 HNB.out hbw, cell_below hc2 HNB.out hbw⟩) (fun hHeld => ?_)
          clear hK K
          refine wpAnyH_ready (rs := [9]) (by kernel_rfl) (by simp) ?_
          refine AllReadyH.cons rfl (fun K hK => ?_) ?_
          · refine step_append_row _ rfl (.tmp 15) (.tmp 21) 39 rfl wr.heap.size 3 i0 (.int .i64 0) 1 8 Try.underlying39 hi0 hz0 hz1 hz2 rfl (by decide) _ 0 [] rfl (World.ownsRow_made wr.drew #[] 0 (Nat.le_refl _) (Nat.zero_le _) rfl) ra q rc (rowCells (at' l k).1) rfl (rowIn_none HROW.out HQ1.out.symm) (by rw [rowCells_len, ← HQ1.out]) (rowCells_at (HROW.out.below HNB.out HHW.out)) (rowCells_one _) (by unfold maxLen; omega) (by omega) (by simp) ?_; intro v1 w2 hown1 hgrow1; obtain ⟨⟨a1, cap1, rfl, hr1⟩, hb2⟩ := row_made HQ1.out.symm hown1 hgrow1; have hs2 := three c0 hc1 hc2 hb2 HK0.out.lt hbw; have hs2' := fun o => three c0 hc1 hc2 (below_more hb2 o) HK0.out.lt hbw; have d2 := cell_below c2 hb2 HK2.out.lt; have d2' := fun o => cell_below c2 (below_more hb2 o) HK2.out.lt; clear hown1 hgrow1
            refine hK.out _ _ (hs2) (fun hHeld => ?_)
            clear hK K
            refine wpAnyH_take (i := 16) (oi := _) (v := ?_) rfl (by kernel_rfl) (by kernel_rfl) (by kernel_rfl) (fun _ _ _ h => h) (Or.inl ⟨by rfl, ?_⟩) (by assumption) ?_
            rotate_left
            · intro w hSw; (try dsimp only at hSw); go_simp; try with_reducible rfl
            simp only [Act.put]
            refine wpAnyH_ready (rs := [17]) (by kernel_rfl) (by simp) ?_
            refine AllReadyH.cons rfl (fun K hK => ?_) ?_
            · go_simp
              refine hK.out _ _ (hs2' _) (fun hHeld => ?_)
              clear hK K
              refine wpAnyH_ready (rs := [18]) (by kernel_rfl) (by simp) ?_
              refine AllReadyH.cons rfl (fun K hK => ?_) ?_
              · refine step_append_lies _ rfl (.tmp 14) (.tmp 30) 24 rfl (w.heap.size + 1 + 1 + 1) 77 i1 _ 2 32 Try.underlying24 hj0 hy0 hy1 hy2 rfl (by decide) v k ((List.range (k * 2)).map f) rfl (owns_below HOWN.out (below_more hb2 _)) ⟨w2.heap.size, 0, none⟩ 1 1 [.slice a1 q cap1, .int .i64 t] rfl rfl (news_two w2 _ _ _) (by simp [Value.oneCell']) (by decide) (by unfold maxLen; omega) (by omega) (Nat.le_trans HS.out (below_more hb2 _).size) _ rfl ?_; intro g cap3 w3 hown3 hgrow3 hloc3 _; have hb3 := grown_below hgrow3 HOWN.out (Nat.le_trans HS.out (below_more hb2 _).size); have hs3 := three' (hs2' _) hb3 (by omega) HBB.out; have hs4 := fun u => three_set (j := 0) hs3 u (show w.heap.size ≠ w.heap.size + 1 + 1 by omega) HBB'.out; have d3 := cell_below (d2' _) hb3 (by omega); have g3 := frozen_below f2 (below_more hb2 _) hb3 HK2.out.lt (by omega)
                refine hK.out _ _ (hs3) (fun hHeld => ?_)
                clear hK K
                refine wpAnyH_take (i := 19) (oi := _) (v := ?_) rfl (by kernel_rfl) (by kernel_rfl) (by kernel_rfl) (fun _ _ _ h => h) (Or.inl ⟨by rfl, ?_⟩) (by assumption) ?_
                rotate_left
                · intro w hSw; (try dsimp only at hSw); go_simp; try with_reducible rfl
                simp only [Act.put]
                refine wpAnyH_ready (rs := [20]) (by kernel_rfl) (by simp) ?_
                refine AllReadyH.cons rfl (fun K hK => ?_) ?_
                · go_simp
                  refine hK.out _ _ (hs4 _) (fun hHeld => ?_)
                  clear hK K
                  refine wpAnyH_done (by kernel_rfl) ?_ _
                  have HD3 : Hid (Laid (w.heap.size + 1 + 1 + 1) w3 (.slice (some ⟨g, 0, none⟩) (k + 1) cap3) (l.take k ++ [at' l k])) := by
                    refine item_made (v := v) HROWS.out (fun j hj => (HOWN.out.lt j hj).2) hb2 HS.out hr1 hgrow3 ?_ (cap1 := cap1) ?_
                    · rcases hloc3 with h | h
                      · exact .inl (by rw [h]; rfl)
                      · exact .inr (by rw [h]; simp [Value.ownBlock])
                    · rw [HLK.out, ← HQ1.out, ← HT.out]; exact hown3
                  have HB3 : Hid (Below w.heap.size w w3) := HL.out.trans (((below_more hb2 _).mono HL.out.size).trans (hb3.mono (by omega)))
                  have HK03 : Hid (Blk w3 w.heap.size 1 (fun _ => .slice (some ⟨b, o, none⟩) n cap)) := (HK0.out.of_block ((below_more hb2 _).block _ HK0.out.lt)).of_block (hb3.block _ (by omega))
                  have HK13 : Hid (Blk w3 (w.heap.size + 1) 1 (fun _ => .slice none 0 0)) := (HK1.out.of_block ((below_more hb2 _).block _ HK1.out.lt)).of_block (hb3.block _ (by omega))
                  have HK23 : Hid (Blk w3 (w.heap.size + 1 + 1) 1 (fun _ => v)) := (HK2.out.of_block ((below_more hb2 _).block _ HK2.out.lt)).of_block (hb3.block _ (by omega))
                  have HS3 : Hid (w.heap.size + 1 + 1 + 1 ≤ w3.heap.size) := Nat.le_trans (Nat.le_trans HS.out (below_more hb2 _).size) hb3.size
                  clear hown3 hgrow3 hloc3 hb3 hs3 hs4 d3 g3 hs2 hs2' d2 d2' hr1 hb2 hHeld c2n c2m c2k
                  go_wp2
                  go_roundw
                  case rel =>
                    refine ⟨k + 1, .slice (some ⟨g, 0, none⟩) (k + 1) cap3, by go_num, by omega, ?_, HB3.out.setCell (by simp; omega) _, HK03.out.of_block (Below.heap_setCell _ _ _ _ (by simp; omega)), HK13.out.of_block (Below.heap_setCell _ _ _ _ (by simp)), (HK23.out.set 0 (by omega) _).congr (fun i hi => by simp [show i = 0 by omega]), by show _ ≤ _; have := HS3.out; simp; omega⟩
                    rw [take_snoc l (by rw [HN.out]; exact hlt)]
                    exact HD3.out.setCell (by omega) _
                  case measure => simp [intOf]; omega
                exact AllReadyH.nil
              exact AllReadyH.nil
            exact AllReadyH.nil
          exact AllReadyH.nil
        exact AllReadyH.nil
      refine AllReadyH.cons rfl (fun K hK => ?_) ?_
      · go_simp
        refine hK.out _ _ (⟨cell_below c0 HNB.out HK0.out.lt, cell_below hc1 HNB.out hbw, cell_below hc2 HNB.out hbw⟩) (fun hHeld => ?_)
        clear hK K
        refine wpAnyH_ready (rs := [1, 9]) (by kernel_rfl) (by simp) ?_
        refine AllReadyH.cons rfl (fun K hK => ?_) ?_
        · go_simp
          refine hK.out _ _ hHeld (fun hHeld => ?_)
          clear hK K
          refine wpAnyH_ready (rs := [9]) (by kernel_rfl) (by simp) ?_
          refine AllReadyH.cons rfl (fun K hK => ?_) ?_
          · refine step_append_row _ rfl (.tmp 15) (.tmp 21) 39 rfl wr.heap.size 3 i0 (.int .i64 0) 1 8 Try.underlying39 hi0 hz0 hz1 hz2 rfl (by decide) _ 0 [] rfl (World.ownsRow_made wr.drew #[] 0 (Nat.le_refl _) (Nat.zero_le _) rfl) ra q rc (rowCells (at' l k).1) rfl (rowIn_none HROW.out HQ1.out.symm) (by rw [rowCells_len, ← HQ1.out]) (rowCells_at (HROW.out.below HNB.out HHW.out)) (rowCells_one _) (by unfold maxLen; omega) (by omega) (by simp) ?_; intro v1 w2 hown1 hgrow1; obtain ⟨⟨a1, cap1, rfl, hr1⟩, hb2⟩ := row_made HQ1.out.symm hown1 hgrow1; have hs2 := three c0 hc1 hc2 hb2 HK0.out.lt hbw; have hs2' := fun o => three c0 hc1 hc2 (below_more hb2 o) HK0.out.lt hbw; have d2 := cell_below c2 hb2 HK2.out.lt; have d2' := fun o => cell_below c2 (below_more hb2 o) HK2.out.lt; clear hown1 hgrow1
            refine hK.out _ _ (hs2) (fun hHeld => ?_)
            clear hK K
            refine wpAnyH_take (i := 16) (oi := _) (v := ?_) rfl (by kernel_rfl) (by kernel_rfl) (by kernel_rfl) (fun _ _ _ h => h) (Or.inl ⟨by rfl, ?_⟩) (by assumption) ?_
            rotate_left
            · intro w hSw; (try dsimp only at hSw); go_simp; try with_reducible rfl
            simp only [Act.put]
            refine wpAnyH_ready (rs := [17]) (by kernel_rfl) (by simp) ?_
            refine AllReadyH.cons rfl (fun K hK => ?_) ?_
            · go_simp
              refine hK.out _ _ (hs2' _) (fun hHeld => ?_)
              clear hK K
              refine wpAnyH_ready (rs := [18]) (by kernel_rfl) (by simp) ?_
              refine AllReadyH.cons rfl (fun K hK => ?_) ?_
              · refine step_append_lies _ rfl (.tmp 14) (.tmp 30) 24 rfl (w.heap.size + 1 + 1 + 1) 77 i1 _ 2 32 Try.underlying24 hj0 hy0 hy1 hy2 rfl (by decide) v k ((List.range (k * 2)).map f) rfl (owns_below HOWN.out (below_more hb2 _)) ⟨w2.heap.size, 0, none⟩ 1 1 [.slice a1 q cap1, .int .i64 t] rfl rfl (news_two w2 _ _ _) (by simp [Value.oneCell']) (by decide) (by unfold maxLen; omega) (by omega) (Nat.le_trans HS.out (below_more hb2 _).size) _ rfl ?_; intro g cap3 w3 hown3 hgrow3 hloc3 _; have hb3 := grown_below hgrow3 HOWN.out (Nat.le_trans HS.out (below_more hb2 _).size); have hs3 := three' (hs2' _) hb3 (by omega) HBB.out; have hs4 := fun u => three_set (j := 0) hs3 u (show w.heap.size ≠ w.heap.size + 1 + 1 by omega) HBB'.out; have d3 := cell_below (d2' _) hb3 (by omega); have g3 := frozen_below f2 (below_more hb2 _) hb3 HK2.out.lt (by omega)
                refine hK.out _ _ (hs3) (fun hHeld => ?_)
                clear hK K
                refine wpAnyH_take (i := 19) (oi := _) (v := ?_) rfl (by kernel_rfl) (by kernel_rfl) (by kernel_rfl) (fun _ _ _ h => h) (Or.inl ⟨by rfl, ?_⟩) (by assumption) ?_
                rotate_left
                · intro w hSw; (try dsimp only at hSw); go_simp; try with_reducible rfl
                simp only [Act.put]
                refine wpAnyH_ready (rs := [20]) (by kernel_rfl) (by simp) ?_
                refine AllReadyH.cons rfl (fun K hK => ?_) ?_
                · go_simp
                  refine hK.out _ _ (hs4 _) (fun hHeld => ?_)
                  clear hK K
                  refine wpAnyH_done (by kernel_rfl) ?_ _
                  have HD3 : Hid (Laid (w.heap.size + 1 + 1 + 1) w3 (.slice (some ⟨g, 0, none⟩) (k + 1) cap3) (l.take k ++ [at' l k])) := by
                    refine item_made (v := v) HROWS.out (fun j hj => (HOWN.out.lt j hj).2) hb2 HS.out hr1 hgrow3 ?_ (cap1 := cap1) ?_
                    · rcases hloc3 with h | h
                      · exact .inl (by rw [h]; rfl)
                      · exact .inr (by rw [h]; simp [Value.ownBlock])
                    · rw [HLK.out, ← HQ1.out, ← HT.out]; exact hown3
                  have HB3 : Hid (Below w.heap.size w w3) := HL.out.trans (((below_more hb2 _).mono HL.out.size).trans (hb3.mono (by omega)))
                  have HK03 : Hid (Blk w3 w.heap.size 1 (fun _ => .slice (some ⟨b, o, none⟩) n cap)) := (HK0.out.of_block ((below_more hb2 _).block _ HK0.out.lt)).of_block (hb3.block _ (by omega))
                  have HK13 : Hid (Blk w3 (w.heap.size + 1) 1 (fun _ => .slice none 0 0)) := (HK1.out.of_block ((below_more hb2 _).block _ HK1.out.lt)).of_block (hb3.block _ (by omega))
                  have HK23 : Hid (Blk w3 (w.heap.size + 1 + 1) 1 (fun _ => v)) := (HK2.out.of_block ((below_more hb2 _).block _ HK2.out.lt)).of_block (hb3.block _ (by omega))
                  have HS3 : Hid (w.heap.size + 1 + 1 + 1 ≤ w3.heap.size) := Nat.le_trans (Nat.le_trans HS.out (below_more hb2 _).size) hb3.size
                  clear hown3 hgrow3 hloc3 hb3 hs3 hs4 d3 g3 hs2 hs2' d2 d2' hr1 hb2 hHeld c2n c2m c2k
                  go_wp2
                  go_roundw
                  case rel =>
                    refine ⟨k + 1, .slice (some ⟨g, 0, none⟩) (k + 1) cap3, by go_num, by omega, ?_, HB3.out.setCell (by simp; omega) _, HK03.out.of_block (Below.heap_setCell _ _ _ _ (by simp; omega)), HK13.out.of_block (Below.heap_setCell _ _ _ _ (by simp)), (HK23.out.set 0 (by omega) _).congr (fun i hi => by simp [show i = 0 by omega]), by show _ ≤ _; have := HS3.out; simp; omega⟩
                    rw [take_snoc l (by rw [HN.out]; exact hlt)]
                    exact HD3.out.setCell (by omega) _
                  case measure => simp [intOf]; omega
                exact AllReadyH.nil
              exact AllReadyH.nil
            exact AllReadyH.nil
          exact AllReadyH.nil
        refine AllReadyH.cons rfl (fun K hK => ?_) ?_
        · refine step_append_row _ rfl (.tmp 15) (.tmp 21) 39 rfl wr.heap.size 3 i0 (.int .i64 0) 1 8 Try.underlying39 hi0 hz0 hz1 hz2 rfl (by decide) _ 0 [] rfl (World.ownsRow_made wr.drew #[] 0 (Nat.le_refl _) (Nat.zero_le _) rfl) ra q rc (rowCells (at' l k).1) rfl (rowIn_none HROW.out HQ1.out.symm) (by rw [rowCells_len, ← HQ1.out]) (rowCells_at (HROW.out.below HNB.out HHW.out)) (rowCells_one _) (by unfold maxLen; omega) (by omega) (by simp) ?_; intro v1 w2 hown1 hgrow1; obtain ⟨⟨a1, cap1, rfl, hr1⟩, hb2⟩ := row_made HQ1.out.symm hown1 hgrow1; have hs2 := three c0 hc1 hc2 hb2 HK0.out.lt hbw; have hs2' := fun o => three c0 hc1 hc2 (below_more hb2 o) HK0.out.lt hbw; have d2 := cell_below c2 hb2 HK2.out.lt; have d2' := fun o => cell_below c2 (below_more hb2 o) HK2.out.lt; clear hown1 hgrow1
          refine hK.out _ _ (hs2) (fun hHeld => ?_)
          clear hK K
          refine wpAnyH_take (i := 16) (oi := _) (v := ?_) rfl (by kernel_rfl) (by kernel_rfl) (by kernel_rfl) (fun _ _ _ h => h) (Or.inl ⟨by rfl, ?_⟩) (by assumption) ?_
          rotate_left
          · intro w hSw; (try dsimp only at hSw); go_simp; try with_reducible rfl
          simp only [Act.put]
          refine wpAnyH_ready (rs := [1, 17]) (by kernel_rfl) (by simp) ?_
          refine AllReadyH.cons rfl (fun K hK => ?_) ?_
          · go_simp
            refine hK.out _ _ hHeld (fun hHeld => ?_)
            clear hK K
            refine wpAnyH_ready (rs := [17]) (by kernel_rfl) (by simp) ?_
            refine AllReadyH.cons rfl (fun K hK => ?_) ?_
            · go_simp
              refine hK.out _ _ (hs2' _) (fun hHeld => ?_)
              clear hK K
              refine wpAnyH_ready (rs := [18]) (by kernel_rfl) (by simp) ?_
              refine AllReadyH.cons rfl (fun K hK => ?_) ?_
              · refine step_append_lies _ rfl (.tmp 14) (.tmp 30) 24 rfl (w.heap.size + 1 + 1 + 1) 77 i1 _ 2 32 Try.underlying24 hj0 hy0 hy1 hy2 rfl (by decide) v k ((List.range (k * 2)).map f) rfl (owns_below HOWN.out (below_more hb2 _)) ⟨w2.heap.size, 0, none⟩ 1 1 [.slice a1 q cap1, .int .i64 t] rfl rfl (news_two w2 _ _ _) (by simp [Value.oneCell']) (by decide) (by unfold maxLen; omega) (by omega) (Nat.le_trans HS.out (below_more hb2 _).size) _ rfl ?_; intro g cap3 w3 hown3 hgrow3 hloc3 _; have hb3 := grown_below hgrow3 HOWN.out (Nat.le_trans HS.out (below_more hb2 _).size); have hs3 := three' (hs2' _) hb3 (by omega) HBB.out; have hs4 := fun u => three_set (j := 0) hs3 u (show w.heap.size ≠ w.heap.size + 1 + 1 by omega) HBB'.out; have d3 := cell_below (d2' _) hb3 (by omega); have g3 := frozen_below f2 (below_more hb2 _) hb3 HK2.out.lt (by omega)
                refine hK.out _ _ (hs3) (fun hHeld => ?_)
                clear hK K
                refine wpAnyH_take (i := 19) (oi := _) (v := ?_) rfl (by kernel_rfl) (by kernel_rfl) (by kernel_rfl) (fun _ _ _ h => h) (Or.inl ⟨by rfl, ?_⟩) (by assumption) ?_
                rotate_left
                · intro w hSw; (try dsimp only at hSw); go_simp; try with_reducible rfl
                simp only [Act.put]
                refine wpAnyH_ready (rs := [20]) (by kernel_rfl) (by simp) ?_
                refine AllReadyH.cons rfl (fun K hK => ?_) ?_
                · go_simp
                  refine hK.out _ _ (hs4 _) (fun hHeld => ?_)
                  clear hK K
                  refine wpAnyH_done (by kernel_rfl) ?_ _
                  have HD3 : Hid (Laid (w.heap.size + 1 + 1 + 1) w3 (.slice (some ⟨g, 0, none⟩) (k + 1) cap3) (l.take k ++ [at' l k])) := by
                    refine item_made (v := v) HROWS.out (fun j hj => (HOWN.out.lt j hj).2) hb2 HS.out hr1 hgrow3 ?_ (cap1 := cap1) ?_
                    · rcases hloc3 with h | h
                      · exact .inl (by rw [h]; rfl)
                      · exact .inr (by rw [h]; simp [Value.ownBlock])
                    · rw [HLK.out, ← HQ1.out, ← HT.out]; exact hown3
                  have HB3 : Hid (Below w.heap.size w w3) := HL.out.trans (((below_more hb2 _).mono HL.out.size).trans (hb3.mono (by omega)))
                  have HK03 : Hid (Blk w3 w.heap.size 1 (fun _ => .slice (some ⟨b, o, none⟩) n cap)) := (HK0.out.of_block ((below_more hb2 _).block _ HK0.out.lt)).of_block (hb3.block _ (by omega))
                  have HK13 : Hid (Blk w3 (w.heap.size + 1) 1 (fun _ => .slice none 0 0)) := (HK1.out.of_block ((below_more hb2 _).block _ HK1.out.lt)).of_block (hb3.block _ (by omega))
                  have HK23 : Hid (Blk w3 (w.heap.size + 1 + 1) 1 (fun _ => v)) := (HK2.out.of_block ((below_more hb2 _).block _ HK2.out.lt)).of_block (hb3.block _ (by omega))
                  have HS3 : Hid (w.heap.size + 1 + 1 + 1 ≤ w3.heap.size) := Nat.le_trans (Nat.le_trans HS.out (below_more hb2 _).size) hb3.size
                  clear hown3 hgrow3 hloc3 hb3 hs3 hs4 d3 g3 hs2 hs2' d2 d2' hr1 hb2 hHeld c2n c2m c2k
                  go_wp2
                  go_roundw
                  case rel =>
                    refine ⟨k + 1, .slice (some ⟨g, 0, none⟩) (k + 1) cap3, by go_num, by omega, ?_, HB3.out.setCell (by simp; omega) _, HK03.out.of_block (Below.heap_setCell _ _ _ _ (by simp; omega)), HK13.out.of_block (Below.heap_setCell _ _ _ _ (by simp)), (HK23.out.set 0 (by omega) _).congr (fun i hi => by simp [show i = 0 by omega]), by show _ ≤ _; have := HS3.out; simp; omega⟩
                    rw [take_snoc l (by rw [HN.out]; exact hlt)]
                    exact HD3.out.setCell (by omega) _
                  case measure => simp [intOf]; omega
                exact AllReadyH.nil
              exact AllReadyH.nil
            exact AllReadyH.nil
          refine AllReadyH.cons rfl (fun K hK => ?_) ?_
          · go_simp
            refine hK.out _ _ (hs2' _) (fun hHeld => ?_)
            clear hK K
            refine wpAnyH_ready (rs := [1]) (by kernel_rfl) (by simp) ?_
            refine AllReadyH.cons rfl (fun K hK => ?_) ?_
            · go_simp
              refine hK.out _ _ hHeld (fun hHeld => ?_)
              clear hK K
              refine wpAnyH_ready (rs := [18]) (by kernel_rfl) (by simp) ?_
              refine AllReadyH.cons rfl (fun K hK => ?_) ?_
              · refine step_append_lies _ rfl (.tmp 14) (.tmp 30) 24 rfl (w.heap.size + 1 + 1 + 1) 77 i1 _ 2 32 Try.underlying24 hj0 hy0 hy1 hy2 rfl (by decide) v k ((List.range (k * 2)).map f) rfl (owns_below HOWN.out (below_more hb2 _)) ⟨w2.heap.size, 0, none⟩ 1 1 [.slice a1 q cap1, .int .i64 t] rfl rfl (news_two w2 _ _ _) (by simp [Value.oneCell']) (by decide) (by unfold maxLen; omega) (by omega) (Nat.le_trans HS.out (below_more hb2 _).size) _ rfl ?_; intro g cap3 w3 hown3 hgrow3 hloc3 _; have hb3 := grown_below hgrow3 HOWN.out (Nat.le_trans HS.out (below_more hb2 _).size); have hs3 := three' (hs2' _) hb3 (by omega) HBB.out; have hs4 := fun u => three_set (j := 0) hs3 u (show w.heap.size ≠ w.heap.size + 1 + 1 by omega) HBB'.out; have d3 := cell_below (d2' _) hb3 (by omega); have g3 := frozen_below f2 (below_more hb2 _) hb3 HK2.out.lt (by omega)
                refine hK.out _ _ (hs3) (fun hHeld => ?_)
                clear hK K
                refine wpAnyH_take (i := 19) (oi := _) (v := ?_) rfl (by kernel_rfl) (by kernel_rfl) (by kernel_rfl) (fun _ _ _ h => h) (Or.inl ⟨by rfl, ?_⟩) (by assumption) ?_
                rotate_left
                · intro w hSw; (try dsimp only at hSw); go_simp; try with_reducible rfl
                simp only [Act.put]
                refine wpAnyH_ready (rs := [20]) (by kernel_rfl) (by simp) ?_
                refine AllReadyH.cons rfl (fun K hK => ?_) ?_
                · go_simp
                  refine hK.out _ _ (hs4 _) (fun hHeld => ?_)
                  clear hK K
                  refine wpAnyH_done (by kernel_rfl) ?_ _
                  have HD3 : Hid (Laid (w.heap.size + 1 + 1 + 1) w3 (.slice (some ⟨g, 0, none⟩) (k + 1) cap3) (l.take k ++ [at' l k])) := by
                    refine item_made (v := v) HROWS.out (fun j hj => (HOWN.out.lt j hj).2) hb2 HS.out hr1 hgrow3 ?_ (cap1 := cap1) ?_
                    · rcases hloc3 with h | h
                      · exact .inl (by rw [h]; rfl)
                      · exact .inr (by rw [h]; simp [Value.ownBlock])
                    · rw [HLK.out, ← HQ1.out, ← HT.out]; exact hown3
                  have HB3 : Hid (Below w.heap.size w w3) := HL.out.trans (((below_more hb2 _).mono HL.out.size).trans (hb3.mono (by omega)))
                  have HK03 : Hid (Blk w3 w.heap.size 1 (fun _ => .slice (some ⟨b, o, none⟩) n cap)) := (HK0.out.of_block ((below_more hb2 _).block _ HK0.out.lt)).of_block (hb3.block _ (by omega))
                  have HK13 : Hid (Blk w3 (w.heap.size + 1) 1 (fun _ => .slice none 0 0)) := (HK1.out.of_block ((below_more hb2 _).block _ HK1.out.lt)).of_block (hb3.block _ (by omega))
                  have HK23 : Hid (Blk w3 (w.heap.size + 1 + 1) 1 (fun _ => v)) := (HK2.out.of_block ((below_more hb2 _).block _ HK2.out.lt)).of_block (hb3.block _ (by omega))
                  have HS3 : Hid (w.heap.size + 1 + 1 + 1 ≤ w3.heap.size) := Nat.le_trans (Nat.le_trans HS.out (below_more hb2 _).size) hb3.size
                  clear hown3 hgrow3 hloc3 hb3 hs3 hs4 d3 g3 hs2 hs2' d2 d2' hr1 hb2 hHeld c2n c2m c2k
                  go_wp2
                  go_roundw
                  case rel =>
                    refine ⟨k + 1, .slice (some ⟨g, 0, none⟩) (k + 1) cap3, by go_num, by omega, ?_, HB3.out.setCell (by simp; omega) _, HK03.out.of_block (Below.heap_setCell _ _ _ _ (by simp; omega)), HK13.out.of_block (Below.heap_setCell _ _ _ _ (by simp)), (HK23.out.set 0 (by omega) _).congr (fun i hi => by simp [show i = 0 by omega]), by show _ ≤ _; have := HS3.out; simp; omega⟩
                    rw [take_snoc l (by rw [HN.out]; exact hlt)]
                    exact HD3.out.setCell (by omega) _
                  case measure => simp [intOf]; omega
                exact AllReadyH.nil
              exact AllReadyH.nil
            exact AllReadyH.nil
          exact AllReadyH.nil
        exact AllReadyH.nil
      exact AllReadyH.nil
    · obtain rfl : k = n := by omega
      have c2 := HK2.out.cell (i := 0) (by omega)
      have c1 := HK1.out.cell (i := 0) (by omega)
      have f1 := HK1.out.frozen 0
      have HD1 : Hid (Laid (w.heap.size + 1 + 1 + 1) wr v l) := by
        have h := HD.out
        rw [List.take_of_length_le (by rw [HN.out]; exact Nat.le_refl _)] at h
        exact h
      obtain ⟨av, capv, rfl, _⟩ := HD1.out.toIn
      go_wp2
      refine bodyPost_ret (v := .agg #[.slice av l.length capv]) (by simp [results, Try.results96, go_sem, c1]) rfl ?_
      exact ⟨_, rfl, HD1.out.setCell (by omega) _, HL.out.setCell (by simp) _⟩
end Go.Proofs.Ytelikebpddhncaa
