/-
  Drawn bags: spec.l03Draw.
-/
import Derived.Test.YtelikebpddhncaaOne
import Derived.Test.YtelikebpddhncaaDrawD
namespace Go.Proofs.Ytelikebpddhncaa
open Go.RowKit

theorem okRow_len {r : List Int} (h : okRow r = true) : r.length ≤ 4 := by
  unfold okRow at h; simp only [Bool.and_eq_true, decide_eq_true_eq] at h; exact h.2
/-- a drawn bag -/
structure Drn (W k : Nat) (L : List It) : Prop where
  good : Good W L
  len : L.length ≤ k
  sum : sm L ≤ 3 * (k : Int)
theorem Drn.nil (W : Nat) : Drn W 0 [] := ⟨Good.nil W, by simp, by simp [sm]⟩
theorem Drn.put {W k : Nat} {L : List It} {r : List Int} {t : Int} (h : Drn W k L) (hk : k ≤ 7) (hr : r.length = W) (h4 : W ≤ 4) (hn : ∀ x ∈ r, 0 ≤ x ∧ x ≤ 99) (ht : 1 ≤ t ∧ t ≤ 3) : Drn W (k + 1) (putL r t L) := by
  have hi : okItem r t = true := by
    refine okItem_split.2 ⟨?_, ht.1, by omega⟩
    unfold okRow okNums
    simp only [Bool.and_eq_true, List.all_eq_true, decide_eq_true_eq]
    exact ⟨fun x hx => hn x hx, by omega⟩
  have hl := putL_len_le (r := r) (t := t) (l := L)
  have hlen := h.len
  have h0 : ∀ x ∈ L, 0 ≤ x.2 := fun x hx => by have := (okItem_split.1 (h.good.oks x hx)).2; omega
  have hs := h.sum
  refine ⟨⟨by omega, putL_oks h.good.oks hi, putL_even h.good.even hr, putL_srt h.good.srt⟩, by omega, ?_⟩
  rw [sm_put (fun x hx => by have := mem_le_sm h0 hx; omega)]
  omega
theorem Drn.more {W k m : Nat} {L : List It} (h : Drn W k L) (hm : k ≤ m) : Drn W m L := ⟨h.good, Nat.le_trans h.len hm, by have := h.sum; omega⟩
theorem KeptBut.one {g b : Nat} {w w1 : World} {v : Value} (h : KeptBut g w w1) (ho : One w b v) (hne : b ≠ g) : One w1 b v := ho.block (h.block b ho.lt hne)
theorem BagIn.keptBut {g lo hi : Nat} {w w1 : World} {a : Option Addr} {l : List It} (h : BagIn lo hi w a l) (hk : KeptBut g w w1) (hB : g < lo) (hh : hi ≤ w.heap.size) : BagIn lo hi w1 a l :=
  h.kept hk.toP hh (fun k h1 h2 h3 => by omega)
theorem One.alloc {w : World} {b : Nat} {v : Value} (h : One w b v) (o : Obj) : One (w.alloc o) b v := h.block (Below.heap_alloc w o b h.lt)

set_option maxHeartbeats 1000000 in
set_option maxRecDepth 100000 in
theorem l03Draw_any (p : Nat) (ao : Option Addr) (n cap W : Nat) (w : World) (hW : W ≤ 4) (hc : CurL p ao n cap w) :
    Calls Try.prog 97 #[.pointer (some ⟨p, 0, none⟩), .int .i64 (W : Nat)] w fun e w' => ∃ (a : Option Addr) (m cp : Nat) (L : List It), e = .returned (.agg #[.slice a m cp]) ∧ Hid (L.length = m ∧ Drn W 7 L) ∧ Hid (BagIn w.heap.size w'.heap.size w' a L) ∧ Hid (CurL p ao n cap w') ∧ Hid (KeptBut p w w') := by
  obtain ⟨i0, hi0, hz0, hz1, hz2⟩ := info_parts Try.info3
  have HC : Hid (CurL p ao n cap w) := hc
  obtain ⟨B, HB⟩ : ∃ B, Hid (B = w.heap.size) := ⟨_, rfl⟩
  have HPB : Hid (p < B) := by rw [HB.out]; obtain ⟨i, h, hcc⟩ := hc.1; exact hcc.lt
  clear hc
  have HO0 : Hid (One ((w.alloc (.cells #[.slice none 0 0] 26)).alloc (.cells #[.slice none 0 0] 26)) B (.slice none 0 0) ∧ One ((w.alloc (.cells #[.slice none 0 0] 26)).alloc (.cells #[.slice none 0 0] 26)) (B + 1) (.slice none 0 0)) :=
    ⟨(One.new w B HB.out _).alloc _, One.new _ (B + 1) (by rw [HB.out]; simp) _⟩
  have HC0 : Hid (CurL p ao n cap ((w.alloc (.cells #[.slice none 0 0] 26)).alloc (.cells #[.slice none 0 0] 26))) := HC.out.below (below2 w _ _) (by rw [← HB.out]; exact HPB.out)
  have HK0 : Hid (KeptBut p w ((w.alloc (.cells #[.slice none 0 0] 26)).alloc (.cells #[.slice none 0 0] 26))) := ((KeptBut.refl p w).alloc _).alloc _
  go_enter Try.func97, Try.ntmps97
  go_wp2
  rw [← HB.out]
  go_loopw [6] (fun i wr => ∃ (k m cp : Nat) (a : Option Addr) (L : List It), i = .int .i64 k ∧ k ≤ 7 ∧ Hid (L.length = m ∧ Drn W k L) ∧ Hid (One wr B (.slice none 0 0)) ∧ Hid (One wr (B + 1) (.slice a m cp)) ∧ Hid (BagIn B wr.heap.size wr a L) ∧ Hid (CurL p ao n cap wr) ∧ Hid (KeptBut p w wr)) (fun i _ => 8 - (intOf i).toNat)
  case atStart => exact ⟨0, 0, 0, none, [], rfl, by omega, ⟨rfl, Drn.nil W⟩, HO0.out.1, HO0.out.2, .inl rfl, HC0, HK0⟩
  case round =>
    obtain ⟨k, m, cp, a, L, rfl, hk, HL, HOB, HO1, HBG, HCU, HKB⟩ := hrel
    go_wp2_with fail
    refine (HCU.out.draw 8 (by omega) (by omega)).mono ?_
    rintro e w2 ⟨x, rfl, hx0, hx1, HC2, HK2⟩
    have hpb := HPB.out
    have HOB2 : Hid (One w2 B (.slice none 0 0)) := HK2.out.one HOB.out (by omega)
    have HO12 : Hid (One w2 (B + 1) (.slice a m cp)) := HK2.out.one HO1.out (by omega)
    have HBG2 : Hid (BagIn B w2.heap.size w2 a L) := (HBG.out.keptBut HK2.out hpb (Nat.le_refl _)).wide (Nat.le_refl _) HK2.out.size
    have HKB2 : Hid (KeptBut p w w2) := HKB.out.trans HK2.out
    clear HK2 HOB HO1 HBG HKB HCU
    by_cases hlt : (k : Int) < x
    · have HCR : Hid (CurL p ao n cap (w2.alloc (.cells #[] 3))) := HC2.out.below (below1' w2 _) (by have := HOB2.out.lt; omega)
      have HBGR : Hid (BagIn B w2.heap.size (w2.alloc (.cells #[] 3)) a L) := HBG2.out.below (below1' w2 _) (Nat.le_refl _)
      have HKBR : Hid (KeptBut p w (w2.alloc (.cells #[] 3))) := HKB2.out.alloc _
      go_wp2
      go_loopw [8, 7] (fun i v wi => ∃ (j : Nat) (r : List Int), i = .int .i64 j ∧ j ≤ W ∧ Hid (wi.ownsRow w2.heap.size 3 1 v j (rowCells r)) ∧ Hid (r.length = j ∧ ∀ y ∈ r, 0 ≤ y ∧ y ≤ 99) ∧ Hid (One wi B (.slice none 0 0)) ∧ Hid (One wi (B + 1) (.slice a m cp)) ∧ Hid (BagIn B w2.heap.size wi a L) ∧ Hid (CurL p ao n cap wi) ∧ Hid (KeptBut p w wi) ∧ Hid (w2.heap.size ≤ wi.heap.size)) (fun i _ _ => W - (intOf i).toNat)
      case atStart => exact ⟨0, [], rfl, by omega, World.ownsRow_made w2 #[] 0 (Nat.le_refl _) (Nat.zero_le _) rfl, ⟨rfl, fun y hy => by simp at hy⟩, HOB2.out.alloc _, HO12.out.alloc _, HBGR, HCR, HKBR, by show _ ≤ _; simp⟩
      case round =>
        obtain ⟨j, r, rfl, hj, HOW, HRL, HOB3, HO13, HBG3, HC3, HKB3, HS3⟩ := hrel
        by_cases hjw : j < W
        · have hjw1 : (j : Int) < (W : Int) := by omega
          go_wp2_with fail
          refine (HC3.out.draw 4 (by omega) (by omega)).mono ?_
          rintro e w4 ⟨y, rfl, hy0, hy1, HC4, HK4⟩
          have hs2 := HOB2.out.lt
          have HOW4 : Hid (w4.ownsRow w2.heap.size 3 1 _ j (rowCells r)) := HK4.out.owns HOW.out (by have := HPB.out; omega)
          have HOB4 : Hid (One w4 B (.slice none 0 0)) := HK4.out.one HOB3.out (by have := HPB.out; omega)
          have HO14 : Hid (One w4 (B + 1) (.slice a m cp)) := HK4.out.one HO13.out (by have := HPB.out; omega)
          have HBG4 : Hid (BagIn B w2.heap.size w4 a L) := HBG3.out.keptBut HK4.out HPB.out HS3.out
          have HKB4 : Hid (KeptBut p w w4) := HKB3.out.trans HK4.out
          have HS4 : Hid (w2.heap.size ≤ w4.heap.size) := Nat.le_trans HS3.out HK4.out.size
          have hown4 := HOW4.out
          clear HK4 HOW HOB3 HO13 HBG3 HC3 HKB3 HS3
          go_wp2_with (at_builtin; refine wpList_append_lies _ rfl (.tmp 22) (.tmp 25) 39 rfl w2.heap.size 3 i0 (.int .i64 0) 1 8 Try.underlying39 hi0 hz0 hz1 hz2 rfl (by decide) _ j (rowCells r) rfl (hown4.alloc _) ⟨w4.heap.size, 0, none⟩ 1 1 [.int .i64 y] rfl rfl (cell_one_new _ _ _) (by simp [Value.oneCell']) (by decide) (by unfold maxLen; omega) (by omega) (by have := HS4.out; simp; omega) _ rfl ?_; intro g5 cap5 w5 hown5 hgrow5 hloc5 _)
          go_roundw
          case rel =>
            have hs4 := HS4.out
            have hb5 : Below w2.heap.size w4 w5 := (((Below.refl _ _).alloc hs4 _)).grown hgrow5 (by simp; omega) (fun q hq => (HOW4.out.lt q hq).1)
            have hsz := hb5.size
            refine ⟨j + 1, r ++ [y], by go_num, by omega, row_snoc hown5, ⟨by rw [List.length_append, HRL.out.1]; rfl, fun z hz => ?_⟩, HOB4.out.block (hb5.block _ (by omega)), HO14.out.block (hb5.block _ (by have := HO12.out.lt; omega)), HBG4.out.below hb5 (Nat.le_refl _), HC4.out.below hb5 (by have := HPB.out; omega), ?_, by show _ ≤ _; omega⟩
            · rcases List.mem_append.1 hz with hz | hz
              · exact HRL.out.2 z hz
              · have : z = y := by simpa using hz
                omega
            · have hkw := HKB2.out.size
              exact ⟨hb5.os.trans HKB4.out.os, hb5.tape.trans HKB4.out.tape, hb5.output.trans HKB4.out.output, Nat.le_trans HKB4.out.size hb5.size, fun q hq hne => (hb5.block q (by omega)).trans (HKB4.out.block q hq hne)⟩
          case measure => simp [intOf]; omega
        · obtain rfl : j = W := by omega
          obtain ⟨ra, rc, rfl, hro⟩ := rowOwn_of HOW.out HRL.out.1
          have HRO : Hid (RowIn w2.heap.size wr.heap.size wr ra r) := hro.toIn
          have HPW : Hid (p < wr.heap.size) := by have := HPB.out; have := HOB3.out.lt; show _ < _; omega
          have hown := HOW
          clear hro HOW
          have o0 : wr.cell? ⟨B + 1, 0, none⟩ = some (.slice a m cp) := HO13.out.blk.cell (i := 0) (by omega)
          have HDR : Hid (∀ w0, wr = w0 → Calls Try.prog 60 #[.pointer (some ⟨p, 0, none⟩), .int .i64 3] w0.drew fun e w' => ∃ x : Int, e = .returned (.int .i64 x) ∧ 0 ≤ x ∧ x < 3 ∧ Hid (CurL p ao n cap w') ∧ Hid (KeptBut p wr w') ∧ w'.cell? ⟨B + 1, 0, none⟩ = some (.slice a m cp)) := by
            intro w0 h0
            subst h0
            have hcd : CurL p ao n cap wr.drew := HC3.out.below ((Below.refl wr.heap.size wr).drew) HPW.out
            refine (hcd.draw 3 (by omega) (by omega)).mono ?_
            rintro e w' ⟨x, h1, h2, h3, h4, h5⟩
            have hk' : KeptBut p wr w' := ⟨h5.out.os, h5.out.tape, h5.out.output, h5.out.size, h5.out.block⟩
            exact ⟨x, h1, h2, h3, h4, hk', (hk'.one HO13.out (by have := HPB.out; omega)).blk.cell (i := 0) (by omega)⟩
          have HPU : Hid (∀ w6 (z : Int), 0 ≤ z → z < 3 → KeptBut p wr w6 → CurL p ao n cap w6 → Calls Try.prog 114 #[.agg #[.slice a m cp], .slice ra j rc, .int .i64 (1 + z)] w6 fun e w' => ∃ (a' : Option Addr) (n' cap' : Nat), e = .returned (.agg #[.slice a' n' cap']) ∧ Hid ((putL r (1 + z) L).length = n') ∧ Hid (BagIn B w'.heap.size w' a' (putL r (1 + z) L)) ∧ Hid (CurL p ao n cap w') ∧ Hid (KeptBut p wr w') ∧ (w'.cell? ⟨B + 1, 0, none⟩ = some (.slice a m cp) ∧ w'.frozen? ⟨B + 1, 0, none⟩ = false)) := by
            intro w6 z hz0 hz1 hk6 hc6
            have hL := HL.out
            have hs3 := HS3.out
            have hpb := HPB.out
            have hs6 := hk6.size
            have hb2 := HOB2.out.lt
            have ok1 : ∀ i, i < m → (at' L i).1.length ≤ 4 ∧ 0 ≤ (at' L i).2 ∧ (at' L i).2 ≤ 1000000 := fun i hi => by
              have hx : at' L i ∈ L := by rw [at_get (by rw [hL.1]; exact hi)]; exact List.getElem_mem _
              have h1 := okItem_split.1 (hL.2.good.oks _ hx)
              have h2 := okRow_len h1.1
              omega
            refine (l03Put_any B w2.heap.size w2.heap.size wr.heap.size a ra m cp j rc L r (1 + z) w6 (HBG3.out.keptBut hk6 hpb hs3) (HRO.out.keptBut hk6 (by omega) (Nat.le_refl _)) (by omega) (by omega) hL.1 HRL.out.1 (by have := hL.2.len; omega) (by omega) (fun i hi => by have := ok1 i hi; omega) (by omega) (fun i hi => (ok1 i hi).2) (by omega)).mono ?_
            rintro e w' ⟨a', n', cap', rfl, h1, h2, h3⟩
            have hk' : KeptBut p wr w' := hk6.below h3.out
            have ho := hk'.one HO13.out (show B + 1 ≠ p by omega)
            exact ⟨a', n', cap', rfl, h1, h2, hc6.below h3.out (by have := HPW.out; omega), hk', ho.blk.cell (i := 0) (by omega), ho.blk.frozen 0⟩
          clear hown
          go_wp2_with fail
          refine wp_region_held_drew (S := fun _ => True) (by kernel_rfl) trivial (fun hHeld => ?_)
          refine wpAnyH_take (i := 1) (oi := _) (v := ?_) rfl (by kernel_rfl) (by kernel_rfl) (by kernel_rfl) (fun _ _ _ h => h) (Or.inl ⟨by rfl, ?_⟩) (by assumption) ?_
          rotate_left
          · intro w hSw; (try dsimp only at hSw); go_simp; try with_reducible rfl
          simp only [Act.put]
          refine wpAnyH_take (i := 2) (oi := _) (v := ?_) rfl (by kernel_rfl) (by kernel_rfl) (by kernel_rfl) (fun _ _ _ h => h) (Or.inl ⟨by rfl, ?_⟩) (by assumption) ?_
          rotate_left
          · intro w hSw; (try dsimp only at hSw); go_simp; try with_reducible rfl
          simp only [Act.put]
          refine wpAnyH_ready (rs := [0, 3]) (by kernel_rfl) (by simp) ?_
          refine AllReadyH.cons rfl (fun K hK => ?_) ?_
          · go_simp
            refine hK.out _ _ trivial (fun hHeld => ?_)
            clear hK K
            refine wpAnyH_ready (rs := [3]) (by kernel_rfl) (by simp) ?_
            refine AllReadyH.cons rfl (fun K hK => ?_) ?_
            · go_simp
              go_wp2_with (go_at_call 60; refine (HDR.out _ rfl).mono ?_; rintro e w6 ⟨z, rfl, hz0, hz1, HC6, HK6, hq6⟩)
              refine hK.out _ _ trivial (fun hHeld => ?_)
              clear hK K
              have hwz : IntKind.i64.wrap (1 + z) = 1 + z := by simp [IntKind.wrap, IntKind.bits, IntKind.signed]; omega
              refine wpAnyH_take (i := 4) (oi := _) (v := ?_) rfl (by kernel_rfl) (by kernel_rfl) (by kernel_rfl) (fun _ _ _ h => h) (Or.inl ⟨by rfl, ?_⟩) (by assumption) ?_
              rotate_left
              · intro w hSw; (try dsimp only at hSw); go_simp; try with_reducible rfl
              simp only [Act.put]
              refine wpAnyH_ready (rs := [5]) (by kernel_rfl) (by simp) ?_
              refine AllReadyH.cons rfl (fun K hK => ?_) ?_
              · go_simp
                go_wp2_with (go_at_call 114; refine (HPU.out _ _ hz0 hz1 HK6.out HC6.out).mono ?_; rintro e w7 ⟨a7, n7, cap7, rfl, HN7, HB7, HC7, HK7, hq7, hf7⟩)
                refine hK.out _ _ trivial (fun hHeld => ?_)
                clear hK K
                refine wpAnyH_ready (rs := [6]) (by kernel_rfl) (by simp) ?_
                refine AllReadyH.cons rfl (fun K hK => ?_) ?_
                · go_simp
                  refine hK.out _ _ trivial (fun hHeld => ?_)
                  clear hK K
                  refine wpAnyH_done (by kernel_rfl) ?_ _
                  go_wp2
                  go_roundw
                  case rel =>
                    have hpb := HPB.out
                    have ho1 : One w7 (B + 1) (.slice a m cp) := HK7.out.one HO13.out (by omega)
                    have hob : One w7 B (.slice none 0 0) := HK7.out.one HOB3.out (by omega)
                    refine ⟨k + 1, n7, cap7, a7, putL r (1 + z) L, by go_num, by omega, ⟨HN7.out, HL.out.2.put hk HRL.out.1 hW HRL.out.2 (by omega)⟩, hob.block (Below.heap_setCell _ _ _ _ (by simp)), ho1.set _, ?_, ?_, ?_⟩
                    · have h8 : BagIn B w7.heap.size (w7.setCell ⟨B + 1, 0, none⟩ (.slice a7 n7 cap7)) a7 (putL r (1 + z) L) := bag_one_set HB7.out ho1 _
                      exact h8.wide (Nat.le_refl _) (by simp)
                    · have hb8 : Below (B + 1) w7 (w7.setCell ⟨B + 1, 0, none⟩ (.slice a7 n7 cap7)) := (Below.refl _ _).setCell (by simp) _
                      exact HC7.out.below hb8 (by omega)
                    · have hb8 : Below (B + 1) w7 (w7.setCell ⟨B + 1, 0, none⟩ (.slice a7 n7 cap7)) := (Below.refl _ _).setCell (by simp) _
                      have hk7 := HKB3.out.trans HK7.out
                      have hbw := HB.out
                      exact ⟨hb8.os.trans hk7.os, hb8.tape.trans hk7.tape, hb8.output.trans hk7.output, Nat.le_trans hk7.size hb8.size, fun q hq hne => (hb8.block q (by omega)).trans (hk7.block q hq hne)⟩
                  case measure => simp [intOf]; omega
                exact AllReadyH.nil
              exact AllReadyH.nil
            exact AllReadyH.nil
          refine AllReadyH.cons rfl (fun K hK => ?_) ?_
          · go_simp
            go_wp2_with (go_at_call 60; refine (HDR.out _ rfl).mono ?_; rintro e w6 ⟨z, rfl, hz0, hz1, HC6, HK6, hq6⟩)
            refine hK.out _ _ trivial (fun hHeld => ?_)
            clear hK K
            have hwz : IntKind.i64.wrap (1 + z) = 1 + z := by simp [IntKind.wrap, IntKind.bits, IntKind.signed]; omega
            refine wpAnyH_take (i := 4) (oi := _) (v := ?_) rfl (by kernel_rfl) (by kernel_rfl) (by kernel_rfl) (fun _ _ _ h => h) (Or.inl ⟨by rfl, ?_⟩) (by assumption) ?_
            rotate_left
            · intro w hSw; (try dsimp only at hSw); go_simp; try with_reducible rfl
            simp only [Act.put]
            refine wpAnyH_ready (rs := [0]) (by kernel_rfl) (by simp) ?_
            refine AllReadyH.cons rfl (fun K hK => ?_) ?_
            · go_simp
              refine hK.out _ _ trivial (fun hHeld => ?_)
              clear hK K
              refine wpAnyH_ready (rs := [5]) (by kernel_rfl) (by simp) ?_
              refine AllReadyH.cons rfl (fun K hK => ?_) ?_
              · go_simp
                go_wp2_with (go_at_call 114; refine (HPU.out _ _ hz0 hz1 HK6.out HC6.out).mono ?_; rintro e w7 ⟨a7, n7, cap7, rfl, HN7, HB7, HC7, HK7, hq7, hf7⟩)
                refine hK.out _ _ trivial (fun hHeld => ?_)
                clear hK K
                refine wpAnyH_ready (rs := [6]) (by kernel_rfl) (by simp) ?_
                refine AllReadyH.cons rfl (fun K hK => ?_) ?_
                · go_simp
                  refine hK.out _ _ trivial (fun hHeld => ?_)
                  clear hK K
                  refine wpAnyH_done (by kernel_rfl) ?_ _
                  go_wp2
                  go_roundw
                  case rel =>
                    have hpb := HPB.out
                    have ho1 : One w7 (B + 1) (.slice a m cp) := HK7.out.one HO13.out (by omega)
                    have hob : One w7 B (.slice none 0 0) := HK7.out.one HOB3.out (by omega)
                    refine ⟨k + 1, n7, cap7, a7, putL r (1 + z) L, by go_num, by omega, ⟨HN7.out, HL.out.2.put hk HRL.out.1 hW HRL.out.2 (by omega)⟩, hob.block (Below.heap_setCell _ _ _ _ (by simp)), ho1.set _, ?_, ?_, ?_⟩
                    · have h8 : BagIn B w7.heap.size (w7.setCell ⟨B + 1, 0, none⟩ (.slice a7 n7 cap7)) a7 (putL r (1 + z) L) := bag_one_set HB7.out ho1 _
                      exact h8.wide (Nat.le_refl _) (by simp)
                    · have hb8 : Below (B + 1) w7 (w7.setCell ⟨B + 1, 0, none⟩ (.slice a7 n7 cap7)) := (Below.refl _ _).setCell (by simp) _
                      exact HC7.out.below hb8 (by omega)
                    · have hb8 : Below (B + 1) w7 (w7.setCell ⟨B + 1, 0, none⟩ (.slice a7 n7 cap7)) := (Below.refl _ _).setCell (by simp) _
                      have hk7 := HKB3.out.trans HK7.out
                      have hbw := HB.out
                      exact ⟨hb8.os.trans hk7.os, hb8.tape.trans hk7.tape, hb8.output.trans hk7.output, Nat.le_trans hk7.size hb8.size, fun q hq hne => (hb8.block q (by omega)).trans (hk7.block q hq hne)⟩
                  case measure => simp [intOf]; omega
                exact AllReadyH.nil
              exact AllReadyH.nil
            exact AllReadyH.nil
          exact AllReadyH.nil
    · have o2 : w2.cell? ⟨B + 1, 0, none⟩ = some (.slice a m cp) := HO12.out.blk.cell (i := 0) (by omega)
      have r2 : w2.cell? ⟨B, 0, none⟩ = some (.slice none 0 0) := HOB2.out.blk.cell (i := 0) (by omega)
      have f2 := HOB2.out.blk.frozen 0
      go_wp2
      have hs := HOB2.out.set (.slice a m cp)
      have z0 := hs.blk.cell (i := 0) (by omega)
      refine bodyPost_ret (v := .agg #[.slice a m cp]) (by simp [results, Try.results97, go_sem, z0]) rfl ?_
      have hpb := HPB.out
      have hbw := HB.out
      have hb8 : Below B w2 (w2.setCell ⟨B, 0, none⟩ (.slice a m cp)) := (Below.refl _ _).setCell (by simp) _
      refine ⟨a, m, cp, L, rfl, ⟨HL.out.1, HL.out.2.more hk⟩, ?_, HC2.out.below hb8 hpb, ?_⟩
      · have h8 : BagIn B w2.heap.size (w2.setCell ⟨B, 0, none⟩ (.slice a m cp)) a L := bag_one_set HBG2.out HOB2.out _
        rw [← hbw]
        exact h8.wide (Nat.le_refl _) (by simp)
      · have hk7 := HKB2.out
        exact ⟨hb8.os.trans hk7.os, hb8.tape.trans hk7.tape, hb8.output.trans hk7.output, Nat.le_trans hk7.size hb8.size, fun q hq hne => (hb8.block q (by omega)).trans (hk7.block q hq hne)⟩
end Go.Proofs.Ytelikebpddhncaa
