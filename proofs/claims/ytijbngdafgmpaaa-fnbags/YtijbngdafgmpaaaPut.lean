/-
  (*rowShelf).put.
-/
import Derived.Test.YtijbngdafgmpaaaShf
import Derived.Test.YtijbngdafgmpaaaApp
import Derived.Deep.DeepCutAuto
import Derived.BigRegion
import Derived.Laws.CopyOwn
namespace Go.Proofs.Ytijbngdafgmpaaa
open Go.RowKit Go.Maps

theorem row_pos {lo hi : Nat} {w w' : World} {ra : Option Addr} {r : List Int} {B : Nat} (h : RowIn lo hi w ra r) (hb : Below B w w') (hB : hi ≤ B) : 0 < (rowCells r).length → ∃ ad, ra = some ad ∧ ∀ j v, (rowCells r)[j]? = some v → w'.cell? (ad.add j) = some v := by
  intro h0
  have h' := h.below hb hB
  have hat := rowCells_at h'
  rcases h' with rfl | ⟨b, o, e, _⟩
  · simp [rowCells] at h0
  · exact ⟨_, e, hat _ e⟩
/-- the key's block behind the copy -/
theorem key_block {w : World} {g T : Nat} {r : List Int} (h4 : r.length ≤ 4) (h : w.heap[g]? = some (.cells (splice [.int .i64 0, .int .i64 0, .int .i64 0, .int .i64 0] 0 (rowCells r)).toArray T (0, 0))) : Blk w g 4 (fun i => .int .i64 (r.getD i 0)) := by
  refine ⟨_, T, h, fun i hi => ?_⟩
  match r, h4 with
  | [], _ => match i, hi with | 0, _ => rfl | 1, _ => rfl | 2, _ => rfl | 3, _ => rfl
  | [a], _ => match i, hi with | 0, _ => rfl | 1, _ => rfl | 2, _ => rfl | 3, _ => rfl
  | [a, b], _ => match i, hi with | 0, _ => rfl | 1, _ => rfl | 2, _ => rfl | 3, _ => rfl
  | [a, b, c], _ => match i, hi with | 0, _ => rfl | 1, _ => rfl | 2, _ => rfl | 3, _ => rfl
  | [a, b, c, d], _ => match i, hi with | 0, _ => rfl | 1, _ => rfl | 2, _ => rfl | 3, _ => rfl

set_option maxHeartbeats 2000000 in
set_option maxRecDepth 100000 in
theorem put_any (lo hi p mb W : Nat) (ra : Option Addr) (q rc : Nat) (r : List Int) (t : Int) (M : List It) (w : World) (hr : RowIn lo hi w ra r) (hh : hi ≤ w.heap.size) (hq : r.length = q) (hm : q ≤ 1048576) (hs : ShelfAt p mb W M w) (hg : Good W M) (hp : ∀ k, lo ≤ k → k < hi → k ≠ p ∧ k ≠ mb) :
    Calls Try.prog 56 #[.pointer (some ⟨p, 0, none⟩), .agg #[.slice ra q rc, .int .i64 t]] w fun e w' => ∃ ok : Bool, e = .returned (.bool ok) ∧ Hid (ok = fits W M r t) ∧ Hid (ShelfAt p mb (wideOf W M r) (if ok = true then putL r t M else M) w') ∧ Hid (KeptP (fun k => k = p ∨ k = mb) w w') := by
  have HS : Hid (ShelfAt p mb W M w) := hs
  have HR : Hid (RowIn lo hi w ra r) := hr
  have HH : Hid (hi ≤ w.heap.size) := hh
  have HQ : Hid (r.length = q) := hq
  have HG : Hid (Good W M) := hg
  have HP : Hid (∀ k, lo ≤ k → k < hi → k ≠ p ∧ k ≠ mb) := hp
  clear hs hr hh hq hg hp
  have HS0 : Hid (ShelfAt p mb W M (w.alloc (.cells #[.slice ra q rc, .int .i64 t] 35))) := HS.out.below (below1' w _)
  obtain ⟨D0, ho0, hm0⟩ := HS0.out.own
  have HM0 : Hid (MapOf D0 M) := hm0
  have c0 := HS0.out.box.cell (i := 0) (by omega)
  have c1 := HS0.out.box.cell (i := 1) (by omega)
  have f0 := HS0.out.box.frozen 0
  simp only [if_true, Nat.one_ne_zero, if_false] at c0 c1
  have hsz := hm0.size
  clear hm0
  go_enter Try.func56, Try.ntmps56
  go_upto_if 11 with (at_len; refine wpList_len_own _ rfl _ 67 rfl 106 3 Try.underlying67 _ mb _ D0 rfl ho0 ?_)
  obtain ⟨V, HV⟩ : ∃ V, Hid (V = wideOf W M r) := ⟨_, rfl⟩
  go_cut [4] (fun v wc => v = .bool false ∧ Hid (ShelfAt p mb V M wc) ∧ Hid (KeptP (fun k => k = p ∨ k = mb) w wc) ∧ Hid (Blk wc w.heap.size 2 (fun i => if i = 0 then .slice ra q rc else .int .i64 t)) ∧ wc.heap.size = w.heap.size + 1)
  case first =>
    by_cases hM : M = []
    · have hd : ((M.length : Int) == 0) = true := by rw [hM]; rfl
      go_wp2
      go_meet
      case rel =>
        have hpw : p < w.heap.size := HS.out.box.lt
        have hmw : mb < w.heap.size := HS.out.own.lt
        have hVq : V = q := by rw [HV.out]; unfold wideOf; rw [if_pos hM]; exact HQ.out
        subst hVq
        refine ⟨rfl, ⟨?_, HS0.out.own.block (Below.heap_setCell _ _ _ _ (by have := HS.out.ne; simp; omega)), HS.out.ne⟩, ?_, ?_, by simp⟩
        · exact (HS0.out.box.set 0 (by omega) _).congr fun i hi => by by_cases h : i = 0 <;> simp [h]
        · exact (KeptP.of_below (below1' w _) (fun k hk _ => hk)).setCell (.inl rfl) _
        · exact (blk_two w _ rfl _ _ _).of_block (Below.heap_setCell _ _ _ _ (by simp; omega))
    · have hd : ((M.length : Int) == 0) = false := by cases M with | nil => exact absurd rfl hM | cons x xs => simp; omega
      go_wp2
      go_meet
      case rel =>
        have hVq : V = W := by rw [HV.out]; unfold wideOf; rw [if_neg hM]
        subst hVq
        exact ⟨rfl, HS0.out, KeptP.of_below (below1' w _) (fun k hk _ => hk), blk_two w _ rfl _ _ _, by simp⟩
  case rest =>
    obtain ⟨rfl, HS1, HK1, HB1, hsz1⟩ := hcut
    clear c0 c1 f0 HS0 ho0 HM0 hsz
    have b0 := HB1.out.cell (i := 0) (by omega)
    have b1 := HB1.out.cell (i := 1) (by omega)
    have c0 := HS1.out.box.cell (i := 0) (by omega)
    have c1 := HS1.out.box.cell (i := 1) (by omega)
    simp only [if_true, Nat.one_ne_zero, if_false] at b0 b1 c0 c1
    by_cases hw : q = V
    · subst hw
      obtain ⟨ok1, HO1⟩ : ∃ b, Hid (b = okItem r t) := ⟨_, rfl⟩
      have HC : Hid (∀ w0, Below wc.heap.size wc w0 → Calls Try.prog 60 #[.agg #[.slice ra q rc, .int .i64 t]] w0 fun e w' => e = .returned (.bool ok1) ∧ Hid (Below wc.heap.size wc w') ∧ (w'.cell? ⟨w.heap.size, 0, none⟩ = some (.slice ra q rc) ∧ w'.cell? ⟨w.heap.size, 1, none⟩ = some (.int .i64 t) ∧ w'.cell? ⟨p, 0, none⟩ = some (.int .i64 q))) := by
        intro w0 h0
        have hrow : RowIn lo hi w0 ra r := (HR.out.kept HK1.out HH.out (fun k h1 h2 => by have := HP.out k h1 h2; omega)).below h0 (by have := HH.out; omega)
        refine (itemOk_any lo hi ra q rc t r ok1 w0 hrow (by have := HH.out; have := h0.size; omega) HQ.out hm HO1.out).mono ?_
        rintro e w' ⟨rfl, hb⟩
        have hb' : Below wc.heap.size wc w' := h0.trans (hb.mono h0.size)
        exact ⟨rfl, hb', cell_below b0 hb' (by omega), cell_below b1 hb' (by omega), cell_below c0 hb' HS1.out.box.lt⟩
      go_wp2_with fail
      go_region_held (fun w' => w'.cell? ⟨w.heap.size, 0, none⟩ = some (.slice ra q rc) ∧ w'.cell? ⟨w.heap.size, 1, none⟩ = some (.int .i64 t) ∧ w'.cell? ⟨p, 0, none⟩ = some (.int .i64 q)) (first | exact ⟨b0, b1, c0⟩ | exact hk2) ((go_at_call 60; refine (HC.out _ ((Below.refl _ _).drew)).mono ?_; rintro e w2 ⟨rfl, B2, hk2⟩))
      have HB2 : Hid (Blk w2 w.heap.size 2 (fun i => if i = 0 then .slice ra q rc else .int .i64 t)) := HB1.out.of_block (B2.out.block _ (by omega))
      have HS2 : Hid (ShelfAt p mb q M w2) := HS1.out.below B2.out
      have HK2 : Hid (KeptP (fun k => k = p ∨ k = mb) w w2) := HK1.out.trans (KeptP.of_below B2.out (fun k hk _ => hk))
      have hsz2 : w.heap.size < w2.heap.size := by have := B2.out.size; omega
      obtain ⟨d0, d1, _⟩ := hk2
      clear HC b0 b1 c0 c1 HB1 HS1 HK1 B2 hsz1
      rcases Bool.eq_false_or_eq_true ok1 with ho | ho
      · subst ho
        have hok : okItem r t = true := HO1.out.symm
        have HOK : Hid (okItem r t = true) := hok
        clear hok HO1
        have hq4 : q ≤ 4 := by rw [← HQ.out]; exact okRow_len (okItem_split.1 HOK.out).1
        have HQ2 : Hid (RowIn lo hi w2 ra r) := HR.out.kept HK2.out HH.out (fun k h1 h2 => by have := HP.out k h1 h2; omega)
        have HPOS : Hid (∀ w', Below w2.heap.size w2 w' → 0 < (rowCells r).length → ∃ ad, ra = some ad ∧ ∀ j v, (rowCells r)[j]? = some v → w'.cell? (ad.add j) = some v) := fun w' hb => row_pos HQ2.out hb (by have := HH.out; omega)
        have HLN : Hid ((rowCells r).length = Nat.min q 4) := by show _ = _; rw [rowCells_len, HQ.out, Nat.mul_one]; exact (Nat.min_eq_left hq4).symm
        have HLF : Hid (0 + (rowCells r).length ≤ [Value.int .i64 0, .int .i64 0, .int .i64 0, .int .i64 0].length) := by show _ ≤ _; rw [rowCells_len, HQ.out]; simp; omega
        have B3 : Hid (Below w2.heap.size w2 (w2.alloc (.cells #[.int .i64 0, .int .i64 0, .int .i64 0, .int .i64 0] 106)).drew) := (below1' w2 _).drew
        have e0 : (w2.alloc (.cells #[.int .i64 0, .int .i64 0, .int .i64 0, .int .i64 0] 106)).cell? ⟨w.heap.size, 0, none⟩ = some (.slice ra q rc) := cell_below d0 (below1' w2 _) hsz2
        have HG3 : Hid ((w2.alloc (.cells #[.int .i64 0, .int .i64 0, .int .i64 0, .int .i64 0] 106)).drew.heap[w2.heap.size]? = some (.cells [Value.int .i64 0, .int .i64 0, .int .i64 0, .int .i64 0].toArray 106 (0, 0))) := (MapKept.heap_alloc w2 _).1
        have HS1 : Hid ((Try.prog.info? 3).map (·.size) = some 1) := by show _ = _; kernel_rfl
        go_wp2_with fail
        go_region_held_law (fun w' => w'.cell? ⟨w.heap.size, 0, none⟩ = some (.slice ra q rc)) (first | exact e0 | exact cell_below d0 B4 hsz2) ((refine step_copy_splice rfl (.tmp 32) (.tmp 34) 29 29 rfl 3 Try.underlying29 HS1.out (some ⟨w2.heap.size, 0, none⟩) ra 4 4 q rc rfl rfl w2.heap.size 0 [.int .i64 0, .int .i64 0, .int .i64 0, .int .i64 0] 106 HG3.out (rowCells r) HLN.out (fun h => ⟨rfl, HPOS.out _ B3.out h⟩) (HLF.out) (rowCells_one r) w2.heap.size w2 B3.out (Nat.le_refl _) ?_; intro w4 HG4 B4))
        have HB4 : Hid (Blk w4 w2.heap.size 4 (fun i => .int .i64 (r.getD i 0))) := key_block (by rw [HQ.out]; exact hq4) HG4.out
        have HS4 : Hid (ShelfAt p mb q M w4) := HS2.out.below B4
        have HK4 : Hid (KeptP (fun k => k = p ∨ k = mb) w w4) := HK2.out.trans (KeptP.of_below B4 (fun k hk _ => hk))
        have HX : Hid (Blk w4 w.heap.size 2 (fun i => if i = 0 then .slice ra q rc else .int .i64 t)) := HB2.out.of_block (B4.block _ hsz2)
        have hsz4 : w.heap.size < w2.heap.size ∧ w2.heap.size ≤ w4.heap.size := ⟨hsz2, B4.size⟩
        have HGQ : Hid (Good q M) := by have := HG.out.still r; rw [← HV.out] at this; exact this
        clear HG4 B4 HG3 B3 e0 HPOS HLN HLF HS1 d0 d1 HB2 HS2 HK2 HQ2
        obtain ⟨D, ho, hmo⟩ := HS4.out.own
        have HMO : Hid (MapOf D M) := hmo
        have HTD : Hid (Maps.Tidy D) := ho.tidy keyLaw
        obtain ⟨x0, X0⟩ : ∃ x, Hid (x = r.getD 0 0) := ⟨_, rfl⟩
        obtain ⟨x1, X1⟩ : ∃ x, Hid (x = r.getD 1 0) := ⟨_, rfl⟩
        obtain ⟨x2, X2⟩ : ∃ x, Hid (x = r.getD 2 0) := ⟨_, rfl⟩
        obtain ⟨x3, X3⟩ : ∃ x, Hid (x = r.getD 3 0) := ⟨_, rfl⟩
        have HKY : Hid (keyV (kx r) = .agg #[.int .i64 x0, .int .i64 x1, .int .i64 x2, .int .i64 x3]) := by show _ = _; rw [X0.out, X1.out, X2.out, X3.out]; rfl
        have HKO : Hid (keyOf Try.prog 106 (.agg #[.int .i64 x0, .int .i64 x1, .int .i64 x2, .int .i64 x3]) = some (keyL (kx r))) := by show _ = _; rw [← HKY.out]; exact key_mk (okRow_key (okItem_split.1 HOK.out).1)
        obtain ⟨c, hlk, hat, _⟩ := World.ownsMap.lookup_int (w := w4.drew) ho keyLaw Try.underlying67 Try.underlying3 (zero3 _) HKO.out
        have HCT : Hid (c = timesOf M r) := hmo.at HGQ.out (okItem_split.1 HOK.out).1 HQ.out hat
        obtain ⟨hc0, hc1⟩ : 0 ≤ c ∧ c ≤ 1000000 := by rw [HCT.out]; exact oks_times HGQ.out.oks r
        obtain ⟨ht0, ht1⟩ := (okItem_split.1 HOK.out).2
        obtain ⟨v, HVM⟩ : ∃ v, Hid (v = min (c + t) 1000000) := ⟨_, rfl⟩
        have hmin : min (c + t) 1000000 = v := HVM.out.symm
        obtain ⟨w5, hup, ho5, hg5⟩ := World.ownsMap.update (w := w4.drew) ho keyLaw Try.underlying67 (by have := HGQ.out.len; unfold maxLen; omega) HKO.out (plainElem_int Try.underlying3 (wf_small (x := v) (by rw [HVM.out]; omega)))
        have HG5 : Hid (w4.drew.grownBy w5 (some mb)) := hg5
        have hpm := HS4.out.ne
        have hmlt : mb < w.heap.size := HS.out.own.lt
        have HK5 : Hid (w5.cell? ⟨w2.heap.size, 0, none⟩ = some (.int .i64 x0) ∧ w5.cell? ⟨w2.heap.size, 1, none⟩ = some (.int .i64 x1) ∧ w5.cell? ⟨w2.heap.size, 2, none⟩ = some (.int .i64 x2) ∧ w5.cell? ⟨w2.heap.size, 3, none⟩ = some (.int .i64 x3) ∧ w5.cell? ⟨w.heap.size, 1, none⟩ = some (.int .i64 t) ∧ w5.cell? ⟨p, 1, none⟩ = some (.map (some mb))) := by
          have hkk := HB4.out.of_block (w' := w5) (hg5.block _ HB4.out.lt (by simp; omega))
          have hxx := HX.out.of_block (w' := w5) (hg5.block _ HX.out.lt (by simp; omega))
          have hbb := HS4.out.box.of_block (w' := w5) (hg5.block _ HS4.out.box.lt (by simp; omega))
          refine ⟨?_, ?_, ?_, ?_, ?_, ?_⟩
          · rw [X0.out]; exact hkk.cell (i := 0) (by omega)
          · rw [X1.out]; exact hkk.cell (i := 1) (by omega)
          · rw [X2.out]; exact hkk.cell (i := 2) (by omega)
          · rw [X3.out]; exact hkk.cell (i := 3) (by omega)
          · exact hxx.cell (i := 1) (by omega)
          · exact hbb.cell (i := 1) (by omega)
        have k0 := HB4.out.cell (i := 0) (by omega)
        have k1 := HB4.out.cell (i := 1) (by omega)
        have k2 := HB4.out.cell (i := 2) (by omega)
        have k3 := HB4.out.cell (i := 3) (by omega)
        rw [← X0.out] at k0
        rw [← X1.out] at k1
        rw [← X2.out] at k2
        rw [← X3.out] at k3
        have g1 := HX.out.cell (i := 1) (by omega)
        have c1 := HS4.out.box.cell (i := 1) (by omega)
        simp only [Nat.one_ne_zero, if_false] at g1 c1
        have hwr : IntKind.i64.wrap (c + t) = c + t := by simp [IntKind.wrap, IntKind.bits, IntKind.signed]; omega
        clear hmo hg5
        go_wp2_with fail
        go_region_held (fun w' => w'.cell? ⟨w2.heap.size, 0, none⟩ = some (.int .i64 x0) ∧ w'.cell? ⟨w2.heap.size, 1, none⟩ = some (.int .i64 x1) ∧ w'.cell? ⟨w2.heap.size, 2, none⟩ = some (.int .i64 x2) ∧ w'.cell? ⟨w2.heap.size, 3, none⟩ = some (.int .i64 x3) ∧ w'.cell? ⟨w.heap.size, 1, none⟩ = some (.int .i64 t) ∧ w'.cell? ⟨p, 1, none⟩ = some (.map (some mb))) (first | exact ⟨k0, k1, k2, k3, g1, c1⟩ | exact HK5.out) (fail)
        have HMP : Hid (MapOf (D.put (keyL (kx r)) (.lit (.int .i64 v))) (putL r t M)) := by rw [HVM.out, HCT.out]; exact HMO.out.put HGQ.out HQ.out HOK.out HTD.out
        have hsz5 : Maps.size (D.put (keyL (kx r)) (.lit (.int .i64 v))) = (putL r t M).length := HMP.out.size
        have HBP : Hid (Blk w5 p 2 (fun i => if i = 0 then .int .i64 (q : Nat) else .map (some mb))) := HS4.out.box.of_block (HG5.out.block _ HS4.out.box.lt (by simp; omega))
        have HKP : Hid (KeptP (fun k => k = p ∨ k = mb) w w5) := by
          refine ⟨HG5.out.os.trans HK4.out.os, HG5.out.tape.trans HK4.out.tape, HG5.out.output.trans HK4.out.output, Nat.le_trans HK4.out.size HG5.out.size, fun k hk hn => ?_⟩
          rw [← HK4.out.block k hk hn]
          exact HG5.out.block k (by have := HK4.out.size; show k < w4.heap.size; omega) (by simp; omega)
        obtain ⟨j0, j1, j2, j3, _, j5⟩ := HK5.out
        clear k0 k1 k2 k3 g1 c1 hlk hat hup hmin hwr HK5 HG5 HX HB4 HS4 HK4
        by_cases h300 : (putL r t M).length ≤ 300
        · have hd : decide ((300 : Int) < ((putL r t M).length : Int)) = false := by simp; omega
          go_wp2_with (at_len; refine wpList_len_own _ rfl _ 67 rfl 106 3 Try.underlying67 _ mb _ _ rfl ho5 ?_)
          go_ret
          refine ⟨true, rfl, ?_, ?_, HKP.out⟩
          · show _ = _
            have h1 := HV.out
            have h2 := HQ.out
            unfold wideOf at h1
            unfold fits
            rw [← h1, h2, HOK.out]
            simp [h300]
          · rw [← HV.out]
            exact ⟨HBP.out, OwnM.of ho5 HMP.out, hpm⟩
        · have hd : decide ((300 : Int) < ((putL r t M).length : Int)) = true := by simp; omega
          have HNI : Hid (¬ inB M r) := fun h => h300 (by rw [putL_len_in HGQ.out.srt h]; exact HGQ.out.len)
          obtain ⟨w6, hdel, ho6, hturn⟩ := World.ownsMap.drop (w := w5.drew) ho5 keyLaw Try.underlying67 HKO.out 0
          have HTU : Hid (w5.drew.grownBy w6 (some mb)) := hturn.grown
          have HK6 : Hid (w6.cell? ⟨w2.heap.size, 0, none⟩ = some (.int .i64 x0) ∧ w6.cell? ⟨w2.heap.size, 1, none⟩ = some (.int .i64 x1) ∧ w6.cell? ⟨w2.heap.size, 2, none⟩ = some (.int .i64 x2) ∧ w6.cell? ⟨w2.heap.size, 3, none⟩ = some (.int .i64 x3) ∧ w6.cell? ⟨p, 1, none⟩ = some (.map (some mb))) := by
            have keep : ∀ {b o : Nat} {u : Value}, w5.cell? ⟨b, o, none⟩ = some u → b ≠ mb → w6.cell? ⟨b, o, none⟩ = some u := fun {b o u} h hne => by
              have hb : w6.heap[b]? = w5.heap[b]? := HTU.out.block b (lt_of_cell h) (by simp; omega)
              rw [← h]; unfold World.cell?; rw [hb]
            exact ⟨keep j0 (by omega), keep j1 (by omega), keep j2 (by omega), keep j3 (by omega), keep j5 hpm⟩
          clear hturn
          go_wp2_with (at_len; refine wpList_len_own _ rfl _ 67 rfl 106 3 Try.underlying67 _ mb _ _ rfl ho5 ?_)
          go_region_held (fun w' => w'.cell? ⟨w2.heap.size, 0, none⟩ = some (.int .i64 x0) ∧ w'.cell? ⟨w2.heap.size, 1, none⟩ = some (.int .i64 x1) ∧ w'.cell? ⟨w2.heap.size, 2, none⟩ = some (.int .i64 x2) ∧ w'.cell? ⟨w2.heap.size, 3, none⟩ = some (.int .i64 x3) ∧ w'.cell? ⟨p, 1, none⟩ = some (.map (some mb))) (first | exact ⟨j0, j1, j2, j3, j5⟩ | exact HK6.out) (fail)
          go_wp2
          go_ret
          refine ⟨false, rfl, ?_, ?_, ?_⟩
          · show _ = _
            unfold fits
            rw [decide_eq_false h300]; simp
          · rw [← HV.out]
            exact ⟨HBP.out.of_block (HTU.out.block _ HBP.out.lt (by simp; omega)), OwnM.of ho6 (HMO.out.back HGQ.out (okItem_split.1 HOK.out).1 HQ.out HTD.out HNI.out), hpm⟩
          · refine ⟨HTU.out.os.trans HKP.out.os, HTU.out.tape.trans HKP.out.tape, HTU.out.output.trans HKP.out.output, Nat.le_trans HKP.out.size HTU.out.size, fun k hk hn => ?_⟩
            rw [← HKP.out.block k hk hn]
            exact HTU.out.block k (by have := HKP.out.size; show k < w5.heap.size; omega) (by simp; omega)
      · subst ho
        go_wp2
        go_ret
        refine ⟨false, rfl, ?_, by rw [← HV.out]; exact HS2.out, HK2.out⟩
        show _ = _
        unfold fits; rw [← HO1.out]; simp
    · have hd : ((q : Int) != (V : Int)) = true := by simp; omega
      have hd2 : ((q : Int) == (V : Int)) = false := by simp; omega
      have hd3 : ¬ (q : Int) = (V : Int) := by omega
      go_wp2_with fail
      go_region
      go_wp2
      go_ret
      refine ⟨false, rfl, ?_, by rw [← HV.out]; exact HS1.out.below ((Below.refl _ _).drew), HK1.out.trans (KeptP.of_below ((Below.refl _ _).drew) (fun k hk _ => hk))⟩
      have h1 := HV.out
      have h2 := HQ.out
      show _ = _
      unfold fits
      unfold wideOf at h1
      rw [← h1, decide_eq_false (show ¬ r.length = V by omega)]; rfl
end Go.Proofs.Ytijbngdafgmpaaa
