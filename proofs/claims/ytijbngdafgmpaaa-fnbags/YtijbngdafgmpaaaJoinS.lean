/-
  spec.BagJoin.
-/
import Derived.Test.YtijbngdafgmpaaaJoin
import Derived.Test.YtijbngdafgmpaaaPutS
namespace Go.Proofs.Ytijbngdafgmpaaa
open Go.RowKit

/-- a block of one cell -/
def One (w : World) (b : Nat) (v : Value) : Prop := w.heap[b]? = some (.cells #[v] 26 (0, 0))
theorem One.lt {w : World} {b : Nat} {v : Value} (h : One w b v) : b < w.heap.size := (Array.getElem?_eq_some_iff.1 h).1
theorem One.blk {w : World} {b : Nat} {v : Value} (h : One w b v) : Blk w b 1 (fun _ => v) := ⟨_, _, h, fun i hi => by simp [show i = 0 by omega]⟩
theorem One.block {w w' : World} {b : Nat} {v : Value} (h : One w b v) (e : w'.heap[b]? = w.heap[b]?) : One w' b v := by unfold One; rw [e]; exact h
theorem One.new (w : World) (b : Nat) (hb : b = w.heap.size) (v : Value) : One (w.alloc (.cells #[v] 26)) b v := by rw [hb]; exact (MapKept.heap_alloc w _).1
theorem One.set {w : World} {b : Nat} {v : Value} (h : One w b v) (u : Value) : One (w.setCell ⟨b, 0, none⟩ u) b u := by
  have hl := h.lt
  unfold One at *
  simp [World.setCell, Array.getElem?_modify, h]
theorem One.cell1 {w : World} {b j : Nat} {v u : Value} (h : One w b v) (hc : w.cell? ⟨b, j, none⟩ = some u) : j = 0 ∧ u = v := by
  unfold One at h
  unfold World.cell? at hc
  rw [h] at hc
  simp at hc
  rcases Nat.eq_zero_or_pos j with h0 | h0
  · subst h0; simp at hc; exact ⟨rfl, hc.symm⟩
  · rw [List.getElem?_eq_none (by simp; omega)] at hc; cases hc
theorem row_one_set {lo hi ob : Nat} {w : World} {a : Option Addr} {l : List Int} {x : Option Addr} {y z : Nat} (h : RowIn lo hi w a l) (ho : One w ob (.slice x y z)) (u : Value) : RowIn lo hi (w.setCell ⟨ob, 0, none⟩ u) a l := by
  rcases h with h | ⟨b, o, e, h1, h2, h3⟩
  · exact .inl h
  · by_cases h0 : l = []
    · exact .inl h0
    · have hne : b ≠ ob := by
        rintro rfl
        have := ho.cell1 (h3 0 (by cases l with | nil => exact absurd rfl h0 | cons x xs => simp))
        cases this.2
      exact .inr ⟨b, o, e, h1, h2, fun i hi => cell_set (h3 i hi) u hne⟩
theorem bag_one_set {lo hi ob : Nat} {w : World} {a : Option Addr} {l : List It} {x : Option Addr} {y z : Nat} (h : BagIn lo hi w a l) (ho : One w ob (.slice x y z)) (u : Value) : BagIn lo hi (w.setCell ⟨ob, 0, none⟩ u) a l := by
  rcases h with h | ⟨b, o, e, h1, h2, h3⟩
  · exact .inl h
  · refine .inr ⟨b, o, e, h1, h2, fun i hi => ?_⟩
    obtain ⟨ra, rc, c1, hr, c2⟩ := h3 i hi
    have hne : b ≠ ob := by
      rintro rfl
      have := (ho.cell1 c2).1
      omega
    exact ⟨ra, rc, cell_set c1 u hne, row_one_set hr ho u, cell_set c2 u hne⟩
theorem joinL_rows {a b : List It} {n : Nat} (ha : ∀ x ∈ a, x.1.length ≤ n) (hb : ∀ x ∈ b, x.1.length ≤ n) : ∀ x ∈ joinL a b, x.1.length ≤ n := by
  induction b generalizing a with
  | nil => exact ha
  | cons y ys ih =>
    refine ih (a := putL y.1 y.2 a) (fun x hx => ?_) (fun x hx => hb x (List.mem_cons_of_mem _ hx))
    rcases putL_row hx with e | e
    · rw [e]; exact hb y (List.mem_cons_self ..)
    · exact ha x e
/-- what a join on its way is good for -/
theorem join_part {a b : List It} (ha : okBag a = true) (hb : okBag b = true) (k : Nat) : (joinL a (b.take k)).length ≤ 600 ∧ ∀ i, i < (joinL a (b.take k)).length → (at' (joinL a (b.take k)) i).1.length ≤ 1048576 ∧ 0 ≤ (at' (joinL a (b.take k)) i).2 ∧ (at' (joinL a (b.take k)) i).2 ≤ 1000000 := by
  obtain ⟨U, ga⟩ := good_of ha
  obtain ⟨V, gb⟩ := good_of hb
  have hlen := joinL_len_le (a := a) (b := b.take k)
  have h1 := ga.len
  have h2 := gb.len
  refine ⟨by simp at hlen; omega, fun i hi => ?_⟩
  have hx : at' (joinL a (b.take k)) i ∈ joinL a (b.take k) := by rw [at_get hi]; exact List.getElem_mem hi
  have ho := joinL_oks ga.oks (gb.take k).oks _ hx
  have h3 := okRow_len (okItem_split.1 ho).1
  have h4 := (okItem_split.1 ho).2
  omega

set_option maxHeartbeats 2000000 in
set_option maxRecDepth 100000 in
theorem specJoin_any (lo hi lo' hi' : Nat) (a b : Option Addr) (n cap m cbp : Nat) (l k0 : List It) (w : World) (ha : BagIn lo hi w a l) (hb : BagIn lo' hi' w b k0) (hh : hi ≤ w.heap.size) (hh' : hi' ≤ w.heap.size) (hn : l.length = n) (hq : k0.length = m) (hm : n ≤ 1048576) (hm' : m ≤ 1048576) (hl : ∀ i, i < n → (at' l i).1.length ≤ 1048576) (hl' : ∀ i, i < m → (at' k0 i).1.length ≤ 1048576) :
    Calls Try.prog 47 #[.agg #[.slice a n cap], .agg #[.slice b m cbp]] w fun e w' => ∃ (a' : Option Addr) (n' cap' : Nat) (ok : Bool), e = .returned (.tuple #[.agg #[.slice a' n' cap'], .bool ok]) ∧ Hid (ok = joinOk l k0) ∧ Hid ((joinR l k0).length = n') ∧ Hid (BagIn w.heap.size w'.heap.size w' a' (joinR l k0)) ∧ Hid (Below w.heap.size w w') := by
  have HA : Hid (BagIn lo hi w a l) := ha
  have HBB : Hid (BagIn lo' hi' w b k0) := hb
  have HH : Hid (hi ≤ w.heap.size) := hh
  have HH' : Hid (hi' ≤ w.heap.size) := hh'
  have HN : Hid (l.length = n) := hn
  have HQ : Hid (k0.length = m) := hq
  have HL : Hid (∀ i, i < n → (at' l i).1.length ≤ 1048576) := hl
  have HL' : Hid (∀ i, i < m → (at' k0 i).1.length ≤ 1048576) := hl'
  obtain ⟨B, HB⟩ : ∃ B, Hid (B = w.heap.size) := ⟨_, rfl⟩
  obtain ⟨s, HSB⟩ : ∃ s : Bool, Hid (s = okBag l) := ⟨_, rfl⟩
  obtain ⟨s', HSB'⟩ : ∃ s : Bool, Hid (s = okBag k0) := ⟨_, rfl⟩
  clear ha hb hh hh' hn hq hl hl'
  have HK3 : Hid (∀ w1, Below (w.heap.size + 1 + 1 + 1) (((w.alloc (.cells #[.slice a n cap] 26)).alloc (.cells #[.slice b m cbp] 26)).alloc (.cells #[.slice none 0 0] 26)) w1 → Blk w1 B 1 (fun _ => .slice a n cap) ∧ Blk w1 (B + 1) 1 (fun _ => .slice b m cbp) ∧ Blk w1 (B + 1 + 1) 1 (fun _ => .slice none 0 0) ∧ Below w.heap.size w w1 ∧ B + 1 + 1 + 1 ≤ w1.heap.size) := fun w1 hb1 => by
    have hb := HB.out
    have hs := hb1.size
    simp at hs
    refine ⟨(((blk_one w B HB.out _ _).alloc _).alloc _).of_block (hb1.block _ (by omega)), ((blk_one _ (B + 1) (by rw [HB.out]; simp) _ _).alloc _).of_block (hb1.block _ (by omega)), (blk_one _ (B + 1 + 1) (by rw [HB.out]; simp) _ _).of_block (hb1.block _ (by omega)), (below3 w _ _ _).trans (hb1.mono (by omega)), by omega⟩
  have HNO : Hid (∀ (w5 : World), Blk w5 (B + 1 + 1) 1 (fun _ => .slice none 0 0) → Below w.heap.size w w5 → joinOk l k0 = false → (∃ (a' : Option Addr) (n' cap' : Nat) (ok : Bool), Ending.returned (.tuple #[.agg #[.slice none 0 0], .bool false]) = .returned (.tuple #[.agg #[.slice a' n' cap'], .bool ok]) ∧ Hid (ok = joinOk l k0) ∧ Hid ((joinR l k0).length = n') ∧ Hid (BagIn w.heap.size (w5.setCell ⟨B + 1 + 1, 0, none⟩ (.slice none 0 0)).heap.size (w5.setCell ⟨B + 1 + 1, 0, none⟩ (.slice none 0 0)) a' (joinR l k0)) ∧ Hid (Below w.heap.size w (w5.setCell ⟨B + 1 + 1, 0, none⟩ (.slice none 0 0))))) := fun w5 h1 h2 h3 => by
    have hb := HB.out
    refine ⟨none, 0, 0, false, rfl, h3.symm, ?_, ?_, h2.setCell (by simp; omega) _⟩
    · rw [joinR_no h3]; rfl
    · rw [joinR_no h3]; exact .inl rfl
  go_enter Try.func47, Try.ntmps47
  go_wp2_with fail
  refine (specOk_any lo hi a n cap l s _ (HA.out.below (below3 w _ _ _) HH.out) (by have := HH.out; simp; omega) HN.out hm HL.out HSB.out).mono ?_
  rintro e w1 ⟨rfl, hb1⟩
  simp only [World.size_alloc] at hb1
  obtain ⟨ka, kb, kr, hw1, hs1⟩ := HK3.out w1 hb1
  have HKA : Hid (Blk w1 B 1 (fun _ => .slice a n cap)) := ka
  have HKB : Hid (Blk w1 (B + 1) 1 (fun _ => .slice b m cbp)) := kb
  have HKR : Hid (Blk w1 (B + 1 + 1) 1 (fun _ => .slice none 0 0)) := kr
  have HW1 : Hid (Below w.heap.size w w1) := hw1
  clear ka kb kr hw1 hb1 HK3
  rw [← HB.out]
  rcases Bool.eq_false_or_eq_true s with hs | hs
  · subst hs
    have HO : Hid (okBag l = true) := HSB.out.symm
    have c1 := HKB.out.cell (i := 0) (by omega)
    go_wp2_with fail
    refine (specOk_any lo' hi' b m cbp k0 s' _ (HBB.out.below HW1.out HH'.out) (Nat.le_trans HH'.out HW1.out.size) HQ.out hm' HL'.out HSB'.out).mono ?_
    rintro e w2 ⟨rfl, hb2⟩
    have HB2 : Hid (Below w1.heap.size w1 w2) := hb2
    clear hb2 c1
    have HW2 : Hid (Below w.heap.size w w2) := HW1.out.trans (HB2.out.mono HW1.out.size)
    have HKA2 : Hid (Blk w2 B 1 (fun _ => .slice a n cap)) := HKA.out.of_block (HB2.out.block _ (by omega))
    have HKB2 : Hid (Blk w2 (B + 1) 1 (fun _ => .slice b m cbp)) := HKB.out.of_block (HB2.out.block _ (by omega))
    have HKR2 : Hid (Blk w2 (B + 1 + 1) 1 (fun _ => .slice none 0 0)) := HKR.out.of_block (HB2.out.block _ (by omega))
    have hs2 : w1.heap.size ≤ w2.heap.size := HB2.out.size
    clear HKA HKB HKR HB2
    rcases Bool.eq_false_or_eq_true s' with hs | hs
    · subst hs
      have HO' : Hid (okBag k0 = true) := HSB'.out.symm
      have h300 : m ≤ 300 := by rw [← HQ.out]; exact okBag_len HO'.out
      have c2 := HKA2.out.cell (i := 0) (by omega)
      go_wp2_with fail
      refine (l03Copy_any lo hi a n cap l _ (HA.out.below HW2.out HH.out) (Nat.le_trans HH.out HW2.out.size) HN.out hm HL.out).mono ?_
      rintro e w3 ⟨v3, rfl, HL3, HB3⟩
      obtain ⟨a3, cap3, rfl, hi3⟩ := HL3.out.toIn
      have HI3 : Hid (BagIn w2.heap.size w3.heap.size w3 a3 l) := hi3.wide (by omega) (Nat.le_refl _)
      rw [HN.out]
      obtain ⟨p, HP⟩ : ∃ p, Hid (p = w3.heap.size) := ⟨_, rfl⟩
      have hs3 : w2.heap.size ≤ w3.heap.size := HB3.out.size
      have hp2 : w2.heap.size ≤ p := by rw [HP.out]; exact hs3
      have HB4 : Hid (Below w2.heap.size w2 (w3.alloc (.cells #[.slice a3 n cap3] 26))) := HB3.out.alloc hs3 _
      have HO4 : Hid (One (w3.alloc (.cells #[.slice a3 n cap3] 26)) p (.slice a3 n cap3)) := One.new w3 p HP.out _
      have HI4 : Hid (BagIn w2.heap.size (w3.alloc (.cells #[.slice a3 n cap3] 26)).heap.size (w3.alloc (.cells #[.slice a3 n cap3] 26)) a3 l) := (HI3.out.below (below1' w3 _) (Nat.le_refl _)).wide (Nat.le_refl _) (by simp)
      clear c2 HL3 hi3 HI3
      go_wp2_with fail
      rw [← HP.out]
      go_loopw [7] (fun i wr => ∃ (k nv cv : Nat) (av : Option Addr), i = .int .i64 k ∧ k ≤ m ∧ Hid ((joinL l (k0.take k)).length = nv) ∧ Hid (One wr p (.slice av nv cv)) ∧ Hid (BagIn w2.heap.size wr.heap.size wr av (joinL l (k0.take k))) ∧ Hid (Below w2.heap.size w2 wr)) (fun i _ => m - (intOf i).toNat)
      case atStart => exact ⟨0, n, cap3, a3, rfl, by omega, HN, HO4, HI4, HB4⟩
      case round =>
        obtain ⟨k, nv, cv, av, rfl, hk, HNV, HON, HIN, HBL⟩ := hrel
        have HWR : Hid (Below w.heap.size w wr) := HW2.out.trans (HBL.out.mono HW2.out.size)
        have HKR3 : Hid (Blk wr (B + 1 + 1) 1 (fun _ => .slice none 0 0)) := HKR2.out.of_block (HBL.out.block _ (by omega))
        have HPT := join_part HO.out HO'.out k
        have HJP : Hid ((joinL l (k0.take k)).length ≤ 600 ∧ ∀ i, i < (joinL l (k0.take k)).length → (at' (joinL l (k0.take k)) i).1.length ≤ 1048576 ∧ 0 ≤ (at' (joinL l (k0.take k)) i).2 ∧ (at' (joinL l (k0.take k)) i).2 ≤ 1000000) := HPT
        clear HPT
        have hnv : nv ≤ 600 := by rw [← HNV.out]; exact HJP.out.1
        have o0 : wr.cell? ⟨p, 0, none⟩ = some (.slice av nv cv) := HON.out.blk.cell (i := 0) (by omega)
        have q0 : wr.cell? ⟨B + 1, 0, none⟩ = some (.slice b m cbp) := cell_below (HKB2.out.cell (i := 0) (by omega)) HBL.out (by omega)
        by_cases hlt : k < m
        · have hlt1 : (k : Int) < (m : Int) := by omega
          obtain ⟨bb, o, rfl, _, hbh, xa, xc, hc1, hrow, hc2⟩ := (HBB.out.below HWR.out HH'.out).item (k := k) (by rw [HQ.out]; exact hlt)
          obtain ⟨xr, HXR⟩ : ∃ xr, Hid (xr = (at' k0 k).1) := ⟨_, rfl⟩
          obtain ⟨y, HY⟩ : ∃ y, Hid (y = (at' k0 k).2) := ⟨_, rfl⟩
          obtain ⟨xq, HXQ⟩ : ∃ xq, Hid (xr.length = xq) := ⟨_, rfl⟩
          change wr.cell? _ = some (.slice xa (at' k0 k).1.length xc) at hc1
          change wr.cell? _ = some (.int .i64 (at' k0 k).2) at hc2
          change RowIn lo' hi' wr xa (at' k0 k).1 at hrow
          rw [← HXR.out, HXQ.out] at hc1
          rw [← HY.out] at hc2
          rw [← HXR.out] at hrow
          have HROW : Hid (RowIn lo' hi' wr xa xr) := hrow
          have hxq : xq ≤ 1048576 := by rw [← HXQ.out, HXR.out]; exact HL'.out k hlt
          have HYB : Hid (0 ≤ y ∧ y ≤ 1000000) := by
            rw [HY.out]
            obtain ⟨V, gb⟩ := good_of HO'.out
            have hkl : k < k0.length := by rw [HQ.out]; exact hlt
            have hx : at' k0 k ∈ k0 := by rw [at_get hkl]; exact List.getElem_mem hkl
            have := (okItem_split.1 (gb.oks _ hx)).2
            show _ ∧ _
            omega
          have HBH : Hid (bb < hi') := hbh
          clear hrow hbh
          have HCA : Hid (∀ w0, Below wr.heap.size wr w0 → Calls Try.prog 64 #[.agg #[.slice av nv cv], .slice xa xq xc, .int .i64 y] w0 fun e w' => ∃ (a' : Option Addr) (n' cap' : Nat), e = .returned (.agg #[.slice a' n' cap']) ∧ Hid ((joinL l (k0.take (k + 1))).length = n') ∧ Hid (BagIn w2.heap.size w'.heap.size w' a' (joinL l (k0.take (k + 1)))) ∧ Hid (Below wr.heap.size wr w') ∧ w'.frozen? ⟨p, 0, none⟩ = false ∧ w'.cell? ⟨p, 0, none⟩ = some (.slice av nv cv) ∧ (w'.cell? ⟨B + 1, 0, none⟩ = some (.slice (some ⟨bb, o, none⟩) m cbp) ∧ w'.cell? ⟨bb, o + k * 2, none⟩ = some (.slice xa xq xc) ∧ w'.cell? ⟨bb, o + k * 2 + 1, none⟩ = some (.int .i64 y))) := by
            intro w0 h0
            have hs0 := h0.size
            have hsz := HBL.out.size
            refine (l03Put_any w2.heap.size wr.heap.size lo' hi' av xa nv cv xq xc (joinL l (k0.take k)) xr y w0 (HIN.out.below h0 (Nat.le_refl _)) (HROW.out.below h0 (Nat.le_trans HH'.out HWR.out.size)) hs0 (by have := HH'.out; have := HWR.out.size; omega) HNV.out HXQ.out (by omega) hxq (fun i hi => (HJP.out.2 i (by rw [HNV.out]; exact hi)).1) HYB.out (fun i hi => (HJP.out.2 i (by rw [HNV.out]; exact hi)).2) (by omega)).mono ?_
            rintro e w' ⟨a', n', cap', rfl, h1, h2, h3⟩
            have hb' : Below wr.heap.size wr w' := h0.trans (h3.out.mono hs0)
            have hon : One w' p (.slice av nv cv) := HON.out.block (hb'.block _ HON.out.lt)
            have e2 : putL xr y (joinL l (k0.take k)) = joinL l (k0.take (k + 1)) := by rw [joinL_take (by rw [HQ.out]; exact hlt), ← HXR.out, ← HY.out]
            rw [e2] at h1 h2
            have hbw : bb < wr.heap.size := by have := HBH.out; have := HH'.out; have := HWR.out.size; omega
            exact ⟨a', n', cap', rfl, h1, h2, hb', hon.blk.frozen 0, hon.blk.cell (i := 0) (by omega), cell_below q0 hb' (by have := HKB2.out.lt; omega), cell_below hc1 hb' hbw, cell_below hc2 hb' hbw⟩
          have hpn : B + 1 ≠ p ∧ bb ≠ p := by have := HBH.out; have := HH'.out; have := HB.out; exact ⟨by omega, by omega⟩
          go_wp2_with fail
          refine wp_region_held_drew (S := fun w' => w'.cell? ⟨B + 1, 0, none⟩ = some (.slice (some ⟨bb, o, none⟩) m cbp) ∧ w'.cell? ⟨bb, o + k * 2, none⟩ = some (.slice xa xq xc) ∧ w'.cell? ⟨bb, o + k * 2 + 1, none⟩ = some (.int .i64 y)) (by kernel_rfl) ⟨q0, hc1, hc2⟩ (fun hHeld => ?_)
          refine wpAnyH_take (i := 1) (oi := _) (v := ?_) rfl (by kernel_rfl) (by kernel_rfl) (by kernel_rfl) (fun _ _ _ h => h) (Or.inl ⟨by rfl, ?_⟩) (by assumption) ?_
          rotate_left
          · intro w hSw; (try dsimp only at hSw); go_simp; try with_reducible rfl
          simp only [Act.put]
          refine wpAnyH_take (i := 2) (oi := _) (v := ?_) rfl (by kernel_rfl) (by kernel_rfl) (by kernel_rfl) (fun _ _ _ h => h) (Or.inl ⟨by rfl, ?_⟩) (by assumption) ?_
          rotate_left
          · intro w hSw; (try dsimp only at hSw); go_simp; try with_reducible rfl
          simp only [Act.put]
          refine wpAnyH_take (i := 3) (oi := _) (v := ?_) rfl (by kernel_rfl) (by kernel_rfl) (by kernel_rfl) (fun _ _ _ h => h) (Or.inl ⟨by rfl, ?_⟩) (by assumption) ?_
          rotate_left
          · intro w hSw; (try dsimp only at hSw); go_simp; try with_reducible rfl
          simp only [Act.put]
          refine wpAnyH_take (i := 4) (oi := _) (v := ?_) rfl (by kernel_rfl) (by kernel_rfl) (by kernel_rfl) (fun _ _ _ h => h) (Or.inl ⟨by rfl, ?_⟩) (by assumption) ?_
          rotate_left
          · intro w hSw; (try dsimp only at hSw); go_simp; try with_reducible rfl
          simp only [Act.put]
          refine wpAnyH_take (i := 5) (oi := _) (v := ?_) rfl (by kernel_rfl) (by kernel_rfl) (by kernel_rfl) (fun _ _ _ h => h) (Or.inl ⟨by rfl, ?_⟩) (by assumption) ?_
          rotate_left
          · intro w hSw; (try dsimp only at hSw); go_simp; try with_reducible rfl
          simp only [Act.put]
          refine wpAnyH_take (i := 6) (oi := _) (v := ?_) rfl (by kernel_rfl) (by kernel_rfl) (by kernel_rfl) (fun _ _ _ h => h) (Or.inl ⟨by rfl, ?_⟩) (by assumption) ?_
          rotate_left
          · intro w hSw; (try dsimp only at hSw); go_simp; try with_reducible rfl
          simp only [Act.put]
          refine wpAnyH_take (i := 7) (oi := _) (v := ?_) rfl (by kernel_rfl) (by kernel_rfl) (by kernel_rfl) (fun _ _ _ h => h) (Or.inl ⟨by rfl, ?_⟩) (by assumption) ?_
          rotate_left
          · intro w hSw; (try dsimp only at hSw); go_simp; try with_reducible rfl
          simp only [Act.put]
          refine wpAnyH_take (i := 8) (oi := _) (v := ?_) rfl (by kernel_rfl) (by kernel_rfl) (by kernel_rfl) (fun _ _ _ h => h) (Or.inl ⟨by rfl, ?_⟩) (by assumption) ?_
          rotate_left
          · intro w hSw; (try dsimp only at hSw); go_simp; try with_reducible rfl
          simp only [Act.put]
          refine wpAnyH_take (i := 9) (oi := _) (v := ?_) rfl (by kernel_rfl) (by kernel_rfl) (by kernel_rfl) (fun _ _ _ h => h) (Or.inl ⟨by rfl, ?_⟩) (by assumption) ?_
          rotate_left
          · intro w hSw; (try dsimp only at hSw); go_simp; try with_reducible rfl
          simp only [Act.put]
          refine wpAnyH_take (i := 10) (oi := _) (v := ?_) rfl (by kernel_rfl) (by kernel_rfl) (by kernel_rfl) (fun _ _ _ h => h) (Or.inl ⟨by rfl, ?_⟩) (by assumption) ?_
          rotate_left
          · intro w hSw; (try dsimp only at hSw); go_simp; try with_reducible rfl
          simp only [Act.put]
          refine wpAnyH_take (i := 11) (oi := _) (v := ?_) rfl (by kernel_rfl) (by kernel_rfl) (by kernel_rfl) (fun _ _ _ h => h) (Or.inl ⟨by rfl, ?_⟩) (by assumption) ?_
          rotate_left
          · intro w hSw; (try dsimp only at hSw); go_simp; try with_reducible rfl
          simp only [Act.put]
          refine wpAnyH_take (i := 12) (oi := _) (v := ?_) rfl (by kernel_rfl) (by kernel_rfl) (by kernel_rfl) (fun _ _ _ h => h) (Or.inl ⟨by rfl, ?_⟩) (by assumption) ?_
          rotate_left
          · intro w hSw; (try dsimp only at hSw); go_simp; try with_reducible rfl
          simp only [Act.put]
          refine wpAnyH_ready (rs := [0]) (by kernel_rfl) (by simp) ?_
          refine AllReadyH.cons rfl (fun K hK => ?_) ?_
          · go_simp
            refine hK.out _ _ hHeld (fun hHeld => ?_)
            clear hK K
            refine wpAnyH_ready (rs := [13]) (by kernel_rfl) (by simp) ?_
            refine AllReadyH.cons rfl (fun K hK => ?_) ?_
            · go_simp
              go_wp2_with (go_at_call 64; refine (HCA.out _ ((Below.refl _ _).drew)).mono ?_; rintro e w5 ⟨a5, n5, cap5, rfl, HN5, HI5, HB5, hf5, hc5, hk5⟩)
              refine hK.out _ _ hk5 (fun hHeld => ?_)
              clear hK K
              refine wpAnyH_ready (rs := [14]) (by kernel_rfl) (by simp) ?_
              refine AllReadyH.cons rfl (fun K hK => ?_) ?_
              · go_simp
                refine hK.out _ _ ⟨cell_set hk5.1 _ hpn.1, cell_set hk5.2.1 _ hpn.2, cell_set hk5.2.2 _ hpn.2⟩ (fun hHeld => ?_)
                clear hK K
                refine wpAnyH_done (by kernel_rfl) ?_ _
                go_wp2
                go_roundw
                case rel =>
                  have h5 := HB5.out.size
                  have hon : One w5 p (.slice av nv cv) := HON.out.block (HB5.out.block _ HON.out.lt)
                  refine ⟨k + 1, n5, cap5, a5, by go_num, by omega, HN5.out, hon.set _, ?_, ?_⟩
                  · have h6 : BagIn w2.heap.size w5.heap.size (w5.setCell ⟨p, 0, none⟩ (.slice a5 n5 cap5)) a5 (joinL l (k0.take (k + 1))) := bag_one_set HI5.out hon _
                    exact h6.wide (Nat.le_refl _) (by simp)
                  · exact (HBL.out.trans (HB5.out.mono HBL.out.size)).setCell (by simp; omega) _
                case measure => simp [intOf]; omega
              exact AllReadyH.nil
            exact AllReadyH.nil
          exact AllReadyH.nil
        · obtain rfl : k = m := by omega
          have e : k0.take k = k0 := List.take_of_length_le (by rw [HQ.out]; exact Nat.le_refl _)
          have HJ : Hid (joinL l (k0.take k) = joinL l k0) := by show _ = _; rw [e]
          obtain ⟨s2, HS2⟩ : ∃ s2 : Bool, Hid (s2 = okBag (joinL l k0)) := ⟨_, rfl⟩
          clear e
          rw [HJ.out] at HNV HIN HJP
          go_wp2_with fail
          refine (specOk_any w2.heap.size wr.heap.size av nv cv (joinL l k0) s2 _ HIN.out (Nat.le_refl _) HNV.out (by omega) (fun i hi => (HJP.out.2 i (by rw [HNV.out]; exact hi)).1) HS2.out).mono ?_
          rintro e w6 ⟨rfl, hb6⟩
          have HB6 : Hid (Below wr.heap.size wr w6) := hb6
          have HKR6 : Hid (Blk w6 (B + 1 + 1) 1 (fun _ => .slice none 0 0)) := HKR3.out.of_block (HB6.out.block _ HKR3.out.lt)
          have HW6 : Hid (Below w.heap.size w w6) := HWR.out.trans (HB6.out.mono HWR.out.size)
          have hon6 : One w6 p (.slice av nv cv) := HON.out.block (HB6.out.block _ HON.out.lt)
          have o6 := hon6.blk.cell (i := 0) (by omega)
          have hs6 : w2.heap.size ≤ wr.heap.size := HBL.out.size
          have r0 := HKR6.out.cell (i := 0) (by omega)
          have f0 := HKR6.out.frozen 0
          clear hb6 hon6 o0 q0
          rcases Bool.eq_false_or_eq_true s2 with h2 | h2
          · subst h2
            go_wp2
            have z0 := (HKR6.out.set 0 (by omega) (.slice av nv cv)).cell (i := 0) (by omega)
            simp only [if_true] at z0
            refine bodyPost_ret (v := .tuple #[.agg #[.slice av nv cv], .bool true]) (by simp [results, Try.results47, go_sem, z0]) rfl ?_
            have hb := HB.out
            have hyes : joinOk l k0 = true := by unfold joinOk; rw [HO.out, HO'.out, ← HS2.out]; rfl
            refine ⟨av, nv, cv, true, rfl, hyes.symm, by rw [joinR_yes hyes]; exact HNV.out, ?_, HW6.out.setCell (by simp; omega) _⟩
            rw [joinR_yes hyes]
            have h7 : BagIn w2.heap.size wr.heap.size (w6.setCell ⟨B + 1 + 1, 0, none⟩ (.slice av nv cv)) av (joinL l k0) := (HIN.out.below HB6.out (Nat.le_refl _)).kept (p := fun c => c = B + 1 + 1) ((KeptP.refl (fun c => c = B + 1 + 1) w6).setCell (g := B + 1 + 1) rfl _) HB6.out.size (fun c h1 h2 h3 => by omega)
            exact h7.wide (by have := HW2.out.size; omega) (by have := HB6.out.size; simp; omega)
          · subst h2
            go_wp2
            have z0 := (HKR6.out.set 0 (by omega) (.slice none 0 0)).cell (i := 0) (by omega)
            simp only [if_true] at z0
            refine bodyPost_ret (v := .tuple #[.agg #[.slice none 0 0], .bool false]) (by simp [results, Try.results47, go_sem, z0]) rfl ?_
            exact HNO.out w6 HKR6.out HW6.out (by unfold joinOk; rw [← HS2.out]; simp)
    · subst hs
      have r0 := HKR2.out.cell (i := 0) (by omega)
      have f0 := HKR2.out.frozen 0
      go_wp2
      have z0 := (HKR2.out.set 0 (by omega) (.slice none 0 0)).cell (i := 0) (by omega)
      simp only [if_true] at z0
      refine bodyPost_ret (v := .tuple #[.agg #[.slice none 0 0], .bool false]) (by simp [results, Try.results47, go_sem, z0]) rfl ?_
      exact HNO.out w2 HKR2.out HW2.out (by unfold joinOk; rw [← HSB'.out]; simp)
  · subst hs
    have r0 := HKR.out.cell (i := 0) (by omega)
    have f0 := HKR.out.frozen 0
    go_wp2
    have z0 := (HKR.out.set 0 (by omega) (.slice none 0 0)).cell (i := 0) (by omega)
    simp only [if_true] at z0
    refine bodyPost_ret (v := .tuple #[.agg #[.slice none 0 0], .bool false]) (by simp [results, Try.results47, go_sem, z0]) rfl ?_
    exact HNO.out w1 HKR.out HW1.out (by unfold joinOk; rw [← HSB.out]; simp)
end Go.Proofs.Ytijbngdafgmpaaa
