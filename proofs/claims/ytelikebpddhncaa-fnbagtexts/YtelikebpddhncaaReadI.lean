/-
  impl.ReadBag.
-/
import Derived.Test.YtelikebpddhncaaRdW
import Derived.Test.YtelikebpddhncaaCopyS
import Derived.Test.YtelikebpddhncaaHeld
namespace Go.Proofs.Ytelikebpddhncaa
open Go.RowKit

/-- the items that a call has laid one behind the other, each with a row of its own -/
def LaidO (B M : Nat) (w : World) (v : Value) (l : List It) : Prop :=
  ∃ (f : Nat → Value) (R : Nat → Option Addr) (C : Nat → Nat), w.ownsRow B 77 2 v l.length ((List.range (l.length * 2)).map f) ∧
    ∀ i, i < l.length → (f (i * 2) = .slice (R i) (at' l i).1.length (C i) ∧ f (i * 2 + 1) = .int .i64 (at' l i).2) ∧ RowOwn B M w (R i) (at' l i).1 ∧ Off v (R i) (at' l i).1 ∧ ((at' l i).1 ≠ [] → ∀ j, j < i → (at' l j).1 ≠ [] → R j ≠ R i)

theorem LaidO.nil (B M : Nat) (w : World) : LaidO B M w (.slice none 0 0) [] :=
  ⟨fun _ => .int .i64 0, fun _ => none, fun _ => 0, by simpa using World.ownsRow_nil w B 77 2, fun i hi => absurd hi (by simp)⟩
theorem LaidO.kept {B M : Nat} {w w' : World} {v : Value} {l : List It} {p : Nat → Prop} (h : LaidO B M w v l) (hb : KeptP p w w') (hp : ∀ k, p k → k < B) : LaidO B M w' v l := by
  obtain ⟨f, R, C, h1, h2⟩ := h
  refine ⟨f, R, C, ?_, fun i hi => ⟨(h2 i hi).1, ?_, (h2 i hi).2.2⟩⟩
  · refine ⟨h1.1, ?_⟩
    rcases h1.2 with h3 | ⟨g, cap, cur, e, h3, h4, h5⟩
    · exact .inl h3
    · exact .inr ⟨g, cap, cur, e, h3, by rw [hb.block g (Array.getElem?_eq_some_iff.1 h4).1 (fun hpk => by have := hp g hpk; omega)]; exact h4, h5⟩
  · rcases (h2 i hi).2.1 with h3 | ⟨c, e, h3, h4, h5⟩
    · exact .inl h3
    · exact .inr ⟨c, e, h3, h4, hb.blk h5 (fun hpk => by have := hp c hpk; omega)⟩
theorem LaidO.wide {B M M' : Nat} {w : World} {v : Value} {l : List It} (h : LaidO B M w v l) (hM : M ≤ M') : LaidO B M' w v l := by
  obtain ⟨f, R, C, h1, h2⟩ := h
  exact ⟨f, R, C, h1, fun i hi => ⟨(h2 i hi).1, (h2 i hi).2.1.wide (Nat.le_refl _) hM, (h2 i hi).2.2⟩⟩
theorem LaidO.own {B M : Nat} {w : World} {v : Value} {l : List It} (h : LaidO B M w v l) (hM : M ≤ w.heap.size) : ∃ a cap, v = .slice a l.length cap ∧ BagOwn B w.heap.size w a l := by
  obtain ⟨f, R, C, h1, h2⟩ := h
  rcases h1.2 with ⟨rfl, h0⟩ | ⟨g, cap, cur, rfl, hg, hb, _⟩
  · exact ⟨none, 0, by rw [h0], .inl (List.length_eq_zero_iff.1 h0)⟩
  · refine ⟨_, cap, rfl, .inr ⟨g, rfl, hg, (Array.getElem?_eq_some_iff.1 hb).1, f, R, C, ?_, fun i hi => ?_⟩⟩
    · exact (blk_own h1).congr fun i hi => by simp [List.getD, hi]
    · obtain ⟨⟨e1, e2⟩, e3, e4, e5⟩ := h2 i hi
      exact ⟨e1, e2, e3.wide (Nat.le_refl _) hM, fun hne => ⟨fun c hc e => e4 hne c 0 hc (by rw [e]; rfl), e5 hne⟩⟩
/-- one item more, with a row that is new -/
theorem LaidO.snoc {B M M' : Nat} {w w1 : World} {v v' : Value} {l : List It} {x : It} {f : Nat → Value} {R : Nat → Option Addr} {C : Nat → Nat} {ra : Option Addr} {rc : Nat}
    (h2 : ∀ i, i < l.length → (f (i * 2) = .slice (R i) (at' l i).1.length (C i) ∧ f (i * 2 + 1) = .int .i64 (at' l i).2) ∧ RowOwn B M w (R i) (at' l i).1 ∧ Off v (R i) (at' l i).1 ∧ ((at' l i).1 ≠ [] → ∀ j, j < i → (at' l j).1 ≠ [] → R j ≠ R i))
    (hr : RowOwn M M' w ra x.1) (hra : Off v ra x.1) (hBM : B ≤ M) (hMM : M ≤ M') (hMw : M' ≤ w.heap.size) (hg : w.grownBy w1 v.ownBlock) (hloc : v'.ownBlock = v.ownBlock ∨ v'.ownBlock = some w.heap.size)
    (ho : w1.ownsRow B 77 2 v' (l.length + 1) ((List.range (l.length * 2)).map f ++ [.slice ra x.1.length rc, .int .i64 x.2])) : LaidO B M' w1 v' (l ++ [x]) := by
  have keep : ∀ {lo hi : Nat} {a : Option Addr} {r : List Int}, hi ≤ w.heap.size → RowOwn lo hi w a r → Off v a r → RowOwn lo hi w1 a r ∧ Off v' a r := by
    intro lo hi a r hh ha hne
    by_cases h0 : r = []
    · exact ⟨.inl h0, fun h => absurd h0 h⟩
    · rcases ha with h | ⟨c, e, h3, h4, h5⟩
      · exact absurd h h0
      · refine ⟨.inr ⟨c, e, h3, h4, h5.of_block (hg.block c (by omega) (fun e2 => hne h0 c 0 e e2.symm))⟩, fun _ c2 o2 e2 => ?_⟩
        rw [e] at e2
        simp only [Option.some.injEq, Addr.mk.injEq] at e2
        obtain ⟨rfl, rfl, _⟩ := e2
        rcases hloc with h | h
        · rw [h]; exact hne h0 c 0 e
        · rw [h]; simp; omega
  have hat : ∀ i, i < l.length → at' (l ++ [x]) i = at' l i := fun i hi => by simp [at', List.getD, List.getElem?_append_left hi]
  have hlast : at' (l ++ [x]) l.length = x := by simp [at', List.getD]
  refine ⟨fun j => if j < l.length * 2 then f j else if j = l.length * 2 then .slice ra x.1.length rc else .int .i64 x.2, fun i => if i < l.length then R i else ra, fun i => if i < l.length then C i else rc, ?_, fun i hi => ?_⟩
  · have e1 : (l ++ [x]).length = l.length + 1 := by simp
    rw [e1]
    have e2 : (List.range ((l.length + 1) * 2)).map (fun j => if j < l.length * 2 then f j else if j = l.length * 2 then Value.slice ra x.1.length rc else .int .i64 x.2) = (List.range (l.length * 2)).map f ++ [.slice ra x.1.length rc, .int .i64 x.2] := by
      rw [show (l.length + 1) * 2 = l.length * 2 + 1 + 1 by omega, List.range_succ, List.range_succ]
      simp only [List.map_append, List.append_assoc]
      congr 1
      · exact List.map_congr_left fun j hj => by simp [List.mem_range.1 hj]
      · simp
        intro h
        omega
    rw [e2]; exact ho
  · simp at hi
    rcases Nat.lt_or_ge i l.length with h | h
    · rw [hat i h]
      obtain ⟨⟨e1, e2⟩, e3, e4, e5⟩ := h2 i h
      simp only [h, if_true]
      have hk := keep (by omega) e3 e4
      refine ⟨⟨by rw [if_pos (by omega)]; exact e1, by rw [if_pos (by omega)]; exact e2⟩, hk.1.wide (Nat.le_refl _) hMM, hk.2, fun hne j hj hnj => ?_⟩
      rw [hat j (by omega)] at hnj
      rw [if_pos (by omega)]
      exact e5 hne j hj hnj
    · obtain rfl : i = l.length := by omega
      rw [hlast]
      simp only [Nat.lt_irrefl, if_false]
      have hk := keep hMw hr hra
      refine ⟨⟨by simp, by rw [if_neg (by omega), if_neg (by omega)]⟩, hk.1.wide hBM (Nat.le_refl _), hk.2, fun hne j hj hnj => ?_⟩
      rw [hat j hj] at hnj
      rw [if_pos hj]
      intro e
      rcases (h2 j hj).2.1 with h3 | ⟨c, ec, _, h4, _⟩
      · exact hnj h3
      · rcases hr with h3 | ⟨c', ec', h5, _, _⟩
        · exact hne h3
        · rw [e, ec'] at ec
          simp at ec <;> omega

theorem LaidO.setAt {B g j : Nat} {w : World} {v : Value} {l : List It} (h : LaidO B g w v l) (hv : ∀ k, v.ownBlock = some k → k < g) (u : Value) : LaidO B g (w.setCell ⟨g, j, none⟩ u) v l := by
  obtain ⟨f, R, C, h1, h2⟩ := h
  refine ⟨f, R, C, ?_, fun i hi => ⟨(h2 i hi).1, ?_, (h2 i hi).2.2⟩⟩
  · refine ⟨h1.1, ?_⟩
    rcases h1.2 with h3 | ⟨g', cap, cur, rfl, h3, h4, h5⟩
    · exact .inl h3
    · exact .inr ⟨g', cap, cur, rfl, h3, by rw [Below.heap_setCell _ _ _ _ (by have := hv g' rfl; simp; omega)]; exact h4, h5⟩
  · rcases (h2 i hi).2.1 with h3 | ⟨c, e, h3, h4, h5⟩
    · exact .inl h3
    · exact .inr ⟨c, e, h3, h4, h5.of_block (Below.heap_setCell _ _ _ _ (by simp; omega))⟩
theorem KeptBut.toP {g : Nat} {w w1 : World} (h : KeptBut g w w1) : KeptP (fun c => c = g) w w1 := ⟨h.os, h.tape, h.output, h.size, fun k hk hn => h.block k hk hn⟩
theorem KeptBut.owns {g B e s n : Nat} {w w1 : World} {v : Value} {xs : List Value} (h : KeptBut g w w1) (ho : w.ownsRow B e s v n xs) (hB : g < B) : w1.ownsRow B e s v n xs := by
  refine ⟨ho.1, ?_⟩
  rcases ho.2 with hn | ⟨g', cap, cur, rfl, hg, hh, r⟩
  · exact .inl hn
  · exact .inr ⟨g', cap, cur, rfl, hg, by rw [h.block g' (Array.getElem?_eq_some_iff.1 hh).1 (by omega)]; exact hh, r⟩
theorem cell_but {g b o : Nat} {w w1 : World} {v : Value} (h : w.cell? ⟨b, o, none⟩ = some v) (hk : KeptBut g w w1) (hb : b < w.heap.size) (hne : b ≠ g) : w1.cell? ⟨b, o, none⟩ = some v := by
  rw [← h]; unfold World.cell?; rw [hk.block b hb hne]
theorem frozen_but {g b o : Nat} {w w1 : World} (h : w.frozen? ⟨b, o, none⟩ = false) (hk : KeptBut g w w1) (hb : b < w.heap.size) (hne : b ≠ g) : w1.frozen? ⟨b, o, none⟩ = false := by
  rw [← h]; unfold World.frozen?; rw [hk.block b hb hne]
theorem blk_but {g b n : Nat} {w w1 : World} {f : Nat → Value} (h : Blk w b n f) (hk : KeptBut g w w1) (hne : b ≠ g) : Blk w1 b n f := h.of_block (hk.block b h.lt hne)
theorem readNums_succ (most m : Nat) (st : St) : readNums most (m + 1) st = (((rn st most).1 : Int) :: (readNums most m (rn st most).2).1, (readNums most m (rn st most).2).2) := rfl
theorem readItems_succ (m : Nat) (st : St) : readItems (m + 1) st = ((readItem st).1 :: (readItems m (readItem st).2).1, (readItems m (readItem st).2).2) := rfl
theorem frozen_below' {w w1 : World} {b o B : Nat} (h : w.frozen? ⟨b, o, none⟩ = false) (h1 : Below B w w1) (hl : b < B) : w1.frozen? ⟨b, o, none⟩ = false := frozen_below h h1 (Below.refl B w1) hl hl
theorem readItems_small (m : Nat) (st : St) : ∀ i, i < m → (at' (readItems m st).1 i).1.length ≤ 4 := by
  induction m generalizing st with
  | zero => intro i hi; omega
  | succ m ih =>
    intro i hi
    rw [readItems_succ]
    cases i with
    | zero =>
      show (readItem st).1.1.length ≤ 4
      simp only [readItem]
      rw [readNums_len]; exact rn_le _ _
    | succ i => exact ih (readItem st).2 i (by omega)

set_option maxHeartbeats 4000000 in
set_option maxRecDepth 100000 in
theorem readBag_any (s : ByteArray) (w : World) (hs : s.size ≤ 1048576) :
    Calls Try.prog 17 #[.string s] w fun e w' => ∃ (v : Value) (ok : Bool), e = .returned (.tuple #[.agg #[v], .bool ok]) ∧ Hid (ok = (implRead s.data.toList).2) ∧ Hid (∃ a cap, v = .slice a (if ok = true then (implRead s.data.toList).1 else []).length cap ∧ BagOwn w.heap.size w'.heap.size w' a (if ok = true then (implRead s.data.toList).1 else [])) ∧ Hid (Below w.heap.size w w') := by
  obtain ⟨i1, hj0, hy0, hy1, hy2⟩ := info_parts Try.info77
  obtain ⟨B, HB⟩ : ∃ B, Hid (B = w.heap.size) := ⟨_, rfl⟩
  go_enter Try.func17, Try.ntmps17
  go_wp2_with fail
  rw [← HB.out]
  have hrd0 : RdAt 80 (B + 1) s (some s.data.toList) (((w.alloc (.cells #[.slice none 0 0] 26)).alloc (.cells #[.string s, .int .i64 0, .bool false] 80)).alloc (.cells #[.slice none 0 0] 26)) := by
    refine ⟨0, false, ?_, Nat.zero_le _, rfl⟩
    rw [HB.out, Below.heap_alloc _ _ _ (by simp)]
    have := heap_new (w.alloc (.cells #[.slice none 0 0] 26)) (.cells #[.string s, .int .i64 0, .bool false] 80)
    simpa using this
  refine (number_any (B + 1) s (some s.data.toList) 300 _ hrd0 hs).mono ?_
  rintro e w1 ⟨N, rfl, HN, HRD1, HK1⟩
  have HP0 : Hid (Blk w1 B 1 (fun _ => .slice none 0 0)) := blk_but (((blk_one w B HB.out _ _).alloc _).alloc _) HK1.out (by omega)
  have HP2 : Hid (Blk w1 (B + 1 + 1) 1 (fun _ => .slice none 0 0)) := blk_but (blk_one _ (B + 1 + 1) (by rw [HB.out]; simp) _ _) HK1.out (by omega)
  have HL1 : Hid (Below B w w1) := by
    have h := HK1.out.to_below (B := B) (by omega) (by rw [HB.out]; simp; omega)
    rw [HB.out] at h ⊢
    exact (below3 w _ _ _).trans h
  have HS1 : Hid (B + 1 + 1 + 1 ≤ w1.heap.size) := by have := HK1.out.size; rw [HB.out]; simpa [Hid] using this
  have hN3 : N ≤ 300 := by rw [HN.out]; exact rn_le _ _
  obtain ⟨st0, HST⟩ : ∃ st0, Hid (st0 = (rn (some s.data.toList) 300).2) := ⟨_, rfl⟩
  rw [← HST.out] at HRD1
  clear hrd0 HK1
  go_wp2
  go_loopw [12] (fun i wr => ∃ (k : Nat) (L : List It) (st : St) (v : Value), i = .int .i64 k ∧ k ≤ N ∧ Hid (readItems N st0 = (L ++ (readItems (N - k) st).1, (readItems (N - k) st).2)) ∧ Hid (L.length = k) ∧ Hid (RdAt 80 (B + 1) s st wr) ∧ Hid (Blk wr (B + 1 + 1) 1 (fun _ => v)) ∧ Hid (LaidO (B + 1 + 1 + 1) wr.heap.size wr v L) ∧ Hid (Blk wr B 1 (fun _ => .slice none 0 0)) ∧ Hid (Below B w wr) ∧ Hid (B + 1 + 1 + 1 ≤ wr.heap.size)) (fun i _ => N - (intOf i).toNat)
  case atStart => exact ⟨0, [], st0, .slice none 0 0, rfl, by omega, by show _ = _; simp, rfl, HRD1, HP2, LaidO.nil _ _ _, HP0, HL1, HS1⟩
  case round =>
    obtain ⟨k, L, st, v, rfl, hk, HE, HLN, HRD, HV, HLA, HP, HL, HS⟩ := hrel
    by_cases hlt : k < N
    · have hlt1 : (k : Int) < (N : Int) := by omega
      go_wp2_with fail
      refine (number_any (B + 1) s st 4 wr HRD.out hs).mono ?_
      rintro e w2 ⟨q, rfl, HQ, HRD2, HKB⟩
      have hq4 : q ≤ 4 := by rw [HQ.out]; exact rn_le _ _
      have hmk := run_make_row' (P := Try.prog) 39 3 (.int .i64 0) 8 Try.underlying39 Try.info3 rfl .i64 .i64 q (by omega) (by omega) w2
      obtain ⟨st2, HST2⟩ : ∃ st2, Hid (st2 = (rn st 4).2) := ⟨_, rfl⟩
      rw [← HST2.out] at HRD2
      have HV2 : Hid (Blk w2 (B + 1 + 1) 1 (fun _ => v)) := blk_but HV.out HKB.out (by omega)
      have HP2' : Hid (Blk w2 B 1 (fun _ => .slice none 0 0)) := blk_but HP.out HKB.out (by omega)
      have HLA2 : Hid (LaidO (B + 1 + 1 + 1) w2.heap.size w2 v L) := (HLA.out.kept HKB.out.toP (fun k hk => by omega)).wide HKB.out.size
      have HL2 : Hid (Below B w w2) := HL.out.trans (HKB.out.to_below (B := B) (by omega) (by have := HS.out; omega))
      have HS2 : Hid (B + 1 + 1 + 1 ≤ w2.heap.size) := Nat.le_trans HS.out HKB.out.size
      clear HKB HV HP HLA HL HS HRD
      obtain ⟨g, HG⟩ : ∃ g, Hid (g = w2.heap.size) := ⟨_, rfl⟩
      rw [← HG.out] at hmk
      have HVG : Hid (∀ k, v.ownBlock = some k → k < g) := by
        obtain ⟨f, R, C, h1, _⟩ := HLA2.out
        intro k hk
        rw [HG.out]
        exact (h1.lt k hk).2
      go_wp2
      go_loopw [18] (fun i wi => ∃ (j : Nat) (l : List Int) (st' : St), i = .int .i64 j ∧ j ≤ q ∧ Hid (readNums 99 q st2 = (l ++ (readNums 99 (q - j) st').1, (readNums 99 (q - j) st').2)) ∧ Hid (l.length = j) ∧ Hid (RdAt 80 (B + 1) s st' wi) ∧ Hid (Blk wi g q (fun t => .int .i64 (l.getD t 0))) ∧ Hid (Blk wi (B + 1 + 1) 1 (fun _ => v)) ∧ Hid (LaidO (B + 1 + 1 + 1) g wi v L) ∧ Hid (Blk wi B 1 (fun _ => .slice none 0 0)) ∧ Hid (Below B w wi) ∧ Hid (g < wi.heap.size)) (fun i _ => q - (intOf i).toNat)
      case atStart =>
        have hba := below1' w2 (.cells (madeCells #[.int .i64 0] q) 3)
        refine ⟨0, [], st2, rfl, by omega, by show _ = _; simp, rfl, HRD2.out.below hba HRD2.out.lt, ?_, HV2.out.alloc _, ?_, HP2'.out.alloc _, HL2.out.alloc (by have := HS2.out; omega) _, by show _ < _; rw [HG.out]; simp⟩
        · obtain ⟨c, hb, hn', hc⟩ := World.rowIs_made w2 (.int .i64 0) q 3
          rw [HG.out]
          exact ⟨c, 3, hb, fun i hi => by rw [hc i hi]; simp⟩
        · have h := HLA2.out.kept (p := fun _ => False) (KeptP.of_below hba (fun _ hk _ => hk)) (fun _ h => h.elim)
          rw [HG.out]; exact h
      case round =>
        obtain ⟨j, l, st', rfl, hj, HEN, HLL, HRDI, HBG, HVI, HLAI, HPI, HLI, HSI⟩ := hrel
        by_cases hjl : j < q
        · have hjl1 : (j : Int) < (q : Int) := by omega
          go_wp2_with fail
          refine (number_any (B + 1) s st' 99 wr HRDI.out hs).mono ?_
          rintro e w3 ⟨x, rfl, HX, HRD3, HKB3⟩
          have hgs := HG.out
          have hs2 := HS2.out
          have HBG3 : Hid (Blk w3 g q (fun t => .int .i64 (l.getD t 0))) := blk_but HBG.out HKB3.out (by omega)
          have HV3 : Hid (Blk w3 (B + 1 + 1) 1 (fun _ => v)) := blk_but HVI.out HKB3.out (by omega)
          have HP3 : Hid (Blk w3 B 1 (fun _ => .slice none 0 0)) := blk_but HPI.out HKB3.out (by omega)
          have HLA3 : Hid (LaidO (B + 1 + 1 + 1) g w3 v L) := HLAI.out.kept HKB3.out.toP (fun k hk => by omega)
          have HL3 : Hid (Below B w w3) := HLI.out.trans (HKB3.out.to_below (B := B) (by omega) (by have := HSI.out; omega))
          have HS3 : Hid (g < w3.heap.size) := Nat.lt_of_lt_of_le HSI.out HKB3.out.size
          have cg := HBG3.out.cell (i := j) hjl
          have fg := HBG3.out.frozen j
          clear HKB3 HBG HVI HPI HLAI HLI HSI HRDI hgs hs2
          go_wp2
          go_roundw
          case rel =>
            have hgs := HG.out
            have hs2 := HS2.out
            refine ⟨j + 1, l ++ [(x : Int)], (rn st' 99).2, by go_num, by omega, ?_, by show _ = _; rw [List.length_append, HLL.out]; rfl, ?_, ?_, HV3.out.of_block (Below.heap_setCell _ _ _ _ (by simp; omega)), ?_, HP3.out.of_block (Below.heap_setCell _ _ _ _ (by simp; omega)), HL3.out.setCell (by simp; omega) _, by show _ < _; simpa using HS3.out⟩
            · show _ = _
              rw [HEN.out, show q - j = (q - (j + 1)) + 1 by omega, readNums_succ, ← HX.out]
              simp
            · obtain ⟨p, f, h1, h2⟩ := HRD3.out
              exact ⟨p, f, by rw [Below.heap_setCell _ _ _ _ (by simp; omega)]; exact h1, h2⟩
            · refine (HBG3.out.set j hjl _).congr fun t ht => ?_
              by_cases e : t = j
              · subst e; simp [List.getD, HLL.out]
              · rw [if_neg e]
                have hl := HLL.out
                by_cases e2 : t < j
                · simp [List.getD, List.getElem?_append_left (show t < l.length by omega)]
                · simp [List.getD, List.getElem?_eq_none (show l.length ≤ t by omega), List.getElem?_eq_none (show (l ++ [(x : Int)]).length ≤ t by simp; omega)]
            · exact HLA3.out.setAt HVG.out _
          case measure => simp [intOf]; omega
        · obtain rfl : j = q := by omega
          obtain ⟨w3, HW3⟩ : ∃ w3, Hid (w3 = wr) := ⟨_, rfl⟩
          have HL0 : Hid (readNums 99 j st2 = (l, st')) := by
            have h := HEN.out
            rw [Nat.sub_self] at h
            simpa [Hid, readNums] using h
          have c3 := HVI.out.cell (i := 0) (by omega)
          have f3 := HVI.out.frozen 0
          obtain ⟨f, R, C, hown, hrows⟩ := HLAI.out
          have hln := HLN.out
          rw [hln] at hown
          have HOWN : Hid (wr.ownsRow (B + 1 + 1 + 1) 77 2 v k ((List.range (k * 2)).map f)) := hown
          have HROWS : Hid (∀ i, i < L.length → (f (i * 2) = .slice (R i) (at' L i).1.length (C i) ∧ f (i * 2 + 1) = .int .i64 (at' L i).2) ∧ RowOwn (B + 1 + 1 + 1) g wr (R i) (at' L i).1 ∧ Off v (R i) (at' L i).1 ∧ ((at' L i).1 ≠ [] → ∀ j, j < i → (at' L j).1 ≠ [] → R j ≠ R i)) := hrows
          have HGB : Hid (B + 1 + 1 + 1 ≤ g) := by have := HG.out; have := HS2.out; show _ ≤ _; omega
          have HS3 : Hid (B + 1 + 1 + 1 ≤ wr.heap.size) := by have := HGB.out; have := HSI.out; show _ ≤ _; omega
          have HK2 := HVI
          have HRD3 := HRDI
          have HOWND : Hid (wr.drew.ownsRow (B + 1 + 1 + 1) 77 2 v k ((List.range (k * 2)).map f)) := HOWN
          have c3d : wr.drew.cell? ⟨B + 1 + 1, 0, none⟩ = some v := c3
          have f3d : wr.drew.frozen? ⟨B + 1 + 1, 0, none⟩ = false := f3
          have HK2D : Hid (B + 1 + 1 < wr.drew.heap.size) := HVI.out.lt
          have HS3D : Hid (B + 1 + 1 + 1 ≤ wr.drew.heap.size) := HS3
          clear hown hrows hln HLAI HEN HW3
          go_wp2_with fail
          refine wp_region_held_drew (S := fun _ => True) (by kernel_rfl) trivial (fun hHeld => ?_)
          refine wpAnyH_take (i := 0) (oi := _) (v := ?_) rfl (by kernel_rfl) (by kernel_rfl) (by kernel_rfl) (fun _ _ _ h => h) (Or.inl ⟨by rfl, ?_⟩) (by assumption) ?_
          rotate_left
          · intro w hSw; (try dsimp only at hSw); go_simp; try with_reducible rfl
          simp only [Act.put]
          refine wpAnyH_take (i := 2) (oi := _) (v := ?_) rfl (by kernel_rfl) (by kernel_rfl) (by kernel_rfl) (fun _ _ _ h => h) (Or.inl ⟨by rfl, ?_⟩) (by assumption) ?_
          rotate_left
          · intro w hSw; (try dsimp only at hSw); go_simp; try with_reducible rfl
          simp only [Act.put]
          refine wpAnyH_ready (rs := [1, 3]) (by kernel_rfl) (by simp) ?_
          refine AllReadyH.cons rfl (fun K hK => ?_) ?_
          · go_simp
            refine hK.out _ _ hHeld (fun hHeld => ?_)
            clear hK K
            refine wpAnyH_ready (rs := [3]) (by kernel_rfl) (by simp) ?_
            refine AllReadyH.cons rfl (fun K hK => ?_) ?_
            · go_simp; go_wp2_with (go_at_call 57; refine (number_any (B + 1) s st' 1000000 wr.drew HRD3.out hs).mono ?_; rintro e w4 ⟨t, rfl, HT, HRD4, HK4⟩); have d4 := cell_but (g := B + 1) c3d HK4.out HK2D.out (by omega); have d4a := fun o => cell_below d4 (below1' w4 o) (Nat.lt_of_lt_of_le HK2D.out HK4.out.size)
              refine hK.out _ _ (trivial) (fun hHeld => ?_)
              clear hK K
              refine wpAnyH_take (i := 4) (oi := _) (v := ?_) rfl (by kernel_rfl) (by kernel_rfl) (by kernel_rfl) (fun _ _ _ h => h) (Or.inl ⟨by rfl, ?_⟩) (by assumption) ?_
              rotate_left
              · intro w hSw; (try dsimp only at hSw); go_simp; try with_reducible rfl
              simp only [Act.put]
              refine wpAnyH_ready (rs := [5]) (by kernel_rfl) (by simp) ?_
              refine AllReadyH.cons rfl (fun K hK => ?_) ?_
              · go_simp
                refine hK.out _ _ (trivial) (fun hHeld => ?_)
                clear hK K
                refine wpAnyH_ready (rs := [6]) (by kernel_rfl) (by simp) ?_
                refine AllReadyH.cons rfl (fun K hK => ?_) ?_
                · refine step_append_lies _ rfl (.tmp 27) (.tmp 31) 24 rfl (B + 1 + 1 + 1) 77 i1 _ 2 32 Try.underlying24 hj0 hy0 hy1 hy2 rfl (by decide) v k ((List.range (k * 2)).map f) rfl ((KeptBut.owns (g := B + 1) HK4.out HOWND.out (by omega)).alloc _) ⟨w4.heap.size, 0, none⟩ 1 1 [.slice (some ⟨g, 0, none⟩) j j, .int .i64 (t : Int)] rfl rfl (news_two w4 _ _ _) (by simp [Value.oneCell']) (by decide) (by unfold maxLen; omega) (by omega) (by have := HS3D.out; have := HK4.out.size; simp; omega) _ rfl ?_; intro g5 cap5 w5 hown5 hgrow5 hloc5 _; have hb5 := grown_below hgrow5 HOWND.out (by have := HS3D.out; have := HK4.out.size; simp; omega); have d5 := cell_below (d4a (.cells #[.slice (some ⟨g, 0, none⟩) j j, .int .i64 (t : Int)] 77)) hb5 (by omega); have e5 := frozen_below (frozen_but (g := B + 1) f3d HK4.out HK2D.out (by omega)) (below1' w4 (.cells #[.slice (some ⟨g, 0, none⟩) j j, .int .i64 (t : Int)] 77)) hb5 (Nat.lt_of_lt_of_le HK2D.out HK4.out.size) (by omega)
                  refine hK.out _ _ (trivial) (fun hHeld => ?_)
                  clear hK K
                  refine wpAnyH_take (i := 7) (oi := _) (v := ?_) rfl (by kernel_rfl) (by kernel_rfl) (by kernel_rfl) (fun _ _ _ h => h) (Or.inl ⟨by rfl, ?_⟩) (by assumption) ?_
                  rotate_left
                  · intro w hSw; (try dsimp only at hSw); go_simp; try with_reducible rfl
                  simp only [Act.put]
                  refine wpAnyH_ready (rs := [8]) (by kernel_rfl) (by simp) ?_
                  refine AllReadyH.cons rfl (fun K hK => ?_) ?_
                  · go_simp
                    refine hK.out _ _ (trivial) (fun hHeld => ?_)
                    clear hK K
                    refine wpAnyH_done (by kernel_rfl) ?_ _
                    have HKW : Hid (KeptBut (B + 1) wr w4) := ⟨HK4.out.os, HK4.out.tape, HK4.out.output, HK4.out.size, HK4.out.block⟩
                    have HRW : Hid (RowOwn g (g + 1) (w4.alloc (.cells #[.slice (some ⟨g, 0, none⟩) j j, .int .i64 (t : Int)] 77)) (some ⟨g, 0, none⟩) l) := by
                      by_cases h0 : l = []
                      · exact .inl h0
                      · refine .inr ⟨g, rfl, Nat.le_refl _, Nat.lt_succ_self _, ?_⟩
                        rw [HLL.out]
                        exact (blk_but HBG.out HKW.out (by have := HGB.out; omega)).alloc _
                    have HD5 : Hid (LaidO (B + 1 + 1 + 1) (g + 1) w5 (.slice (some ⟨g5, 0, none⟩) (k + 1) cap5) (L ++ [(l, (t : Int))])) := by
                      refine LaidO.snoc (M := g) (M' := g + 1) (w := w4.alloc (.cells #[.slice (some ⟨g, 0, none⟩) j j, .int .i64 (t : Int)] 77)) (v := v) (f := f) (R := R) (C := C) (ra := some ⟨g, 0, none⟩) (rc := j) (fun i hi => ?_) HRW.out ?_ HGB.out (Nat.le_succ _) (by have := HSI.out; have := HKW.out.size; simp; omega) hgrow5 ?_ ?_
                      · obtain ⟨p1, p2, p3⟩ := HROWS.out i hi
                        refine ⟨p1, ?_, p3⟩
                        rcases p2 with h | ⟨c, e, h1, h2, h3⟩
                        · exact .inl h
                        · exact .inr ⟨c, e, h1, h2, (blk_but h3 HKW.out (by omega)).alloc _⟩
                      · intro _ c o e hc
                        simp only [Option.some.injEq, Addr.mk.injEq] at e
                        have := HVG.out c hc
                        omega
                      · rcases hloc5 with h | h
                        · exact .inl (by rw [h]; rfl)
                        · exact .inr (by rw [h]; rfl)
                      · rw [HLN.out, HLL.out]; exact hown5
                    have HB45 : Hid (Below (B + 1 + 1 + 1) w4 w5) := ((Below.refl _ w4).alloc (by have := HS3.out; have := HKW.out.size; omega) _).trans hb5
                    have HRD5 : Hid (RdAt 80 (B + 1) s (rn st' 1000000).2 w5) := HRD4.out.below HB45.out (by omega)
                    have HP5 : Hid (Blk w5 B 1 (fun _ => .slice none 0 0)) := (blk_but HPI.out HKW.out (by omega)).of_block (HB45.out.block _ (by omega))
                    have HV5 : Hid (Blk w5 (B + 1 + 1) 1 (fun _ => v)) := (blk_but HVI.out HKW.out (by omega)).of_block (HB45.out.block _ (by omega))
                    have HL5 : Hid (Below B w w5) := (HLI.out.trans (HKW.out.to_below (B := B) (by omega) (by have := HS3.out; omega))).trans (HB45.out.mono (by omega))
                    have HG5 : Hid (g + 1 ≤ w5.heap.size) := by have := HSI.out; have := HKW.out.size; have := HB45.out.size; show _ ≤ _; omega
                    have HIT : Hid (readItem st = ((l, (t : Int)), (rn st' 1000000).2)) := by
                      show _ = _
                      simp only [readItem]
                      rw [← HQ.out, ← HST2.out, HL0.out, ← HT.out]
                    clear hown5 hgrow5 hloc5 hb5 d5 e5 d4 d4a hHeld HRD4 HK4 c3 f3 c3d f3d
                    go_wp2
                    go_roundw
                    case rel =>
                      have hgb := HGB.out; have hg5 := HG5.out
                      refine ⟨k + 1, L ++ [(l, (t : Int))], (rn st' 1000000).2, .slice (some ⟨g5, 0, none⟩) (k + 1) cap5, by go_num, by omega, ?_, by show _ = _; rw [List.length_append, HLN.out]; rfl, ?_, (HV5.out.set 0 (by omega) _).congr (fun i hi => by simp [show i = 0 by omega]), ?_, HP5.out.of_block (Below.heap_setCell _ _ _ _ (by simp; omega)), HL5.out.setCell (by simp; omega) _, by show _ ≤ _; simp; omega⟩
                      · show _ = _
                        rw [HE.out, show N - k = (N - (k + 1)) + 1 by omega, readItems_succ, HIT.out]
                        simp
                      · obtain ⟨p, f, h1, h2⟩ := HRD5.out
                        exact ⟨p, f, by rw [Below.heap_setCell _ _ _ _ (by simp)]; exact h1, h2⟩
                      · exact (HD5.out.kept (p := fun c => c = B + 1 + 1) ((KeptP.refl (fun c => c = B + 1 + 1) w5).setCell (g := B + 1 + 1) rfl _) (fun c hc => by omega)).wide (by simp; omega)
                    case measure => simp [intOf]; omega
                  exact AllReadyH.nil
                exact AllReadyH.nil
              exact AllReadyH.nil
            exact AllReadyH.nil
          refine AllReadyH.cons rfl (fun K hK => ?_) ?_
          · go_simp; go_wp2_with (go_at_call 57; refine (number_any (B + 1) s st' 1000000 wr.drew HRD3.out hs).mono ?_; rintro e w4 ⟨t, rfl, HT, HRD4, HK4⟩); have d4 := cell_but (g := B + 1) c3d HK4.out HK2D.out (by omega); have d4a := fun o => cell_below d4 (below1' w4 o) (Nat.lt_of_lt_of_le HK2D.out HK4.out.size)
            refine hK.out _ _ (trivial) (fun hHeld => ?_)
            clear hK K
            refine wpAnyH_take (i := 4) (oi := _) (v := ?_) rfl (by kernel_rfl) (by kernel_rfl) (by kernel_rfl) (fun _ _ _ h => h) (Or.inl ⟨by rfl, ?_⟩) (by assumption) ?_
            rotate_left
            · intro w hSw; (try dsimp only at hSw); go_simp; try with_reducible rfl
            simp only [Act.put]
            refine wpAnyH_ready (rs := [1, 5]) (by kernel_rfl) (by simp) ?_
            refine AllReadyH.cons rfl (fun K hK => ?_) ?_
            · go_simp
              refine hK.out _ _ hHeld (fun hHeld => ?_)
              clear hK K
              refine wpAnyH_ready (rs := [5]) (by kernel_rfl) (by simp) ?_
              refine AllReadyH.cons rfl (fun K hK => ?_) ?_
              · go_simp
                refine hK.out _ _ (trivial) (fun hHeld => ?_)
                clear hK K
                refine wpAnyH_ready (rs := [6]) (by kernel_rfl) (by simp) ?_
                refine AllReadyH.cons rfl (fun K hK => ?_) ?_
                · refine step_append_lies _ rfl (.tmp 27) (.tmp 31) 24 rfl (B + 1 + 1 + 1) 77 i1 _ 2 32 Try.underlying24 hj0 hy0 hy1 hy2 rfl (by decide) v k ((List.range (k * 2)).map f) rfl ((KeptBut.owns (g := B + 1) HK4.out HOWND.out (by omega)).alloc _) ⟨w4.heap.size, 0, none⟩ 1 1 [.slice (some ⟨g, 0, none⟩) j j, .int .i64 (t : Int)] rfl rfl (news_two w4 _ _ _) (by simp [Value.oneCell']) (by decide) (by unfold maxLen; omega) (by omega) (by have := HS3D.out; have := HK4.out.size; simp; omega) _ rfl ?_; intro g5 cap5 w5 hown5 hgrow5 hloc5 _; have hb5 := grown_below hgrow5 HOWND.out (by have := HS3D.out; have := HK4.out.size; simp; omega); have d5 := cell_below (d4a (.cells #[.slice (some ⟨g, 0, none⟩) j j, .int .i64 (t : Int)] 77)) hb5 (by omega); have e5 := frozen_below (frozen_but (g := B + 1) f3d HK4.out HK2D.out (by omega)) (below1' w4 (.cells #[.slice (some ⟨g, 0, none⟩) j j, .int .i64 (t : Int)] 77)) hb5 (Nat.lt_of_lt_of_le HK2D.out HK4.out.size) (by omega)
                  refine hK.out _ _ (trivial) (fun hHeld => ?_)
                  clear hK K
                  refine wpAnyH_take (i := 7) (oi := _) (v := ?_) rfl (by kernel_rfl) (by kernel_rfl) (by kernel_rfl) (fun _ _ _ h => h) (Or.inl ⟨by rfl, ?_⟩) (by assumption) ?_
                  rotate_left
                  · intro w hSw; (try dsimp only at hSw); go_simp; try with_reducible rfl
                  simp only [Act.put]
                  refine wpAnyH_ready (rs := [8]) (by kernel_rfl) (by simp) ?_
                  refine AllReadyH.cons rfl (fun K hK => ?_) ?_
                  · go_simp
                    refine hK.out _ _ (trivial) (fun hHeld => ?_)
                    clear hK K
                    refine wpAnyH_done (by kernel_rfl) ?_ _
                    have HKW : Hid (KeptBut (B + 1) wr w4) := ⟨HK4.out.os, HK4.out.tape, HK4.out.output, HK4.out.size, HK4.out.block⟩
                    have HRW : Hid (RowOwn g (g + 1) (w4.alloc (.cells #[.slice (some ⟨g, 0, none⟩) j j, .int .i64 (t : Int)] 77)) (some ⟨g, 0, none⟩) l) := by
                      by_cases h0 : l = []
                      · exact .inl h0
                      · refine .inr ⟨g, rfl, Nat.le_refl _, Nat.lt_succ_self _, ?_⟩
                        rw [HLL.out]
                        exact (blk_but HBG.out HKW.out (by have := HGB.out; omega)).alloc _
                    have HD5 : Hid (LaidO (B + 1 + 1 + 1) (g + 1) w5 (.slice (some ⟨g5, 0, none⟩) (k + 1) cap5) (L ++ [(l, (t : Int))])) := by
                      refine LaidO.snoc (M := g) (M' := g + 1) (w := w4.alloc (.cells #[.slice (some ⟨g, 0, none⟩) j j, .int .i64 (t : Int)] 77)) (v := v) (f := f) (R := R) (C := C) (ra := some ⟨g, 0, none⟩) (rc := j) (fun i hi => ?_) HRW.out ?_ HGB.out (Nat.le_succ _) (by have := HSI.out; have := HKW.out.size; simp; omega) hgrow5 ?_ ?_
                      · obtain ⟨p1, p2, p3⟩ := HROWS.out i hi
                        refine ⟨p1, ?_, p3⟩
                        rcases p2 with h | ⟨c, e, h1, h2, h3⟩
                        · exact .inl h
                        · exact .inr ⟨c, e, h1, h2, (blk_but h3 HKW.out (by omega)).alloc _⟩
                      · intro _ c o e hc
                        simp only [Option.some.injEq, Addr.mk.injEq] at e
                        have := HVG.out c hc
                        omega
                      · rcases hloc5 with h | h
                        · exact .inl (by rw [h]; rfl)
                        · exact .inr (by rw [h]; rfl)
                      · rw [HLN.out, HLL.out]; exact hown5
                    have HB45 : Hid (Below (B + 1 + 1 + 1) w4 w5) := ((Below.refl _ w4).alloc (by have := HS3.out; have := HKW.out.size; omega) _).trans hb5
                    have HRD5 : Hid (RdAt 80 (B + 1) s (rn st' 1000000).2 w5) := HRD4.out.below HB45.out (by omega)
                    have HP5 : Hid (Blk w5 B 1 (fun _ => .slice none 0 0)) := (blk_but HPI.out HKW.out (by omega)).of_block (HB45.out.block _ (by omega))
                    have HV5 : Hid (Blk w5 (B + 1 + 1) 1 (fun _ => v)) := (blk_but HVI.out HKW.out (by omega)).of_block (HB45.out.block _ (by omega))
                    have HL5 : Hid (Below B w w5) := (HLI.out.trans (HKW.out.to_below (B := B) (by omega) (by have := HS3.out; omega))).trans (HB45.out.mono (by omega))
                    have HG5 : Hid (g + 1 ≤ w5.heap.size) := by have := HSI.out; have := HKW.out.size; have := HB45.out.size; show _ ≤ _; omega
                    have HIT : Hid (readItem st = ((l, (t : Int)), (rn st' 1000000).2)) := by
                      show _ = _
                      simp only [readItem]
                      rw [← HQ.out, ← HST2.out, HL0.out, ← HT.out]
                    clear hown5 hgrow5 hloc5 hb5 d5 e5 d4 d4a hHeld HRD4 HK4 c3 f3 c3d f3d
                    go_wp2
                    go_roundw
                    case rel =>
                      have hgb := HGB.out; have hg5 := HG5.out
                      refine ⟨k + 1, L ++ [(l, (t : Int))], (rn st' 1000000).2, .slice (some ⟨g5, 0, none⟩) (k + 1) cap5, by go_num, by omega, ?_, by show _ = _; rw [List.length_append, HLN.out]; rfl, ?_, (HV5.out.set 0 (by omega) _).congr (fun i hi => by simp [show i = 0 by omega]), ?_, HP5.out.of_block (Below.heap_setCell _ _ _ _ (by simp; omega)), HL5.out.setCell (by simp; omega) _, by show _ ≤ _; simp; omega⟩
                      · show _ = _
                        rw [HE.out, show N - k = (N - (k + 1)) + 1 by omega, readItems_succ, HIT.out]
                        simp
                      · obtain ⟨p, f, h1, h2⟩ := HRD5.out
                        exact ⟨p, f, by rw [Below.heap_setCell _ _ _ _ (by simp)]; exact h1, h2⟩
                      · exact (HD5.out.kept (p := fun c => c = B + 1 + 1) ((KeptP.refl (fun c => c = B + 1 + 1) w5).setCell (g := B + 1 + 1) rfl _) (fun c hc => by omega)).wide (by simp; omega)
                    case measure => simp [intOf]; omega
                  exact AllReadyH.nil
                exact AllReadyH.nil
              exact AllReadyH.nil
            refine AllReadyH.cons rfl (fun K hK => ?_) ?_
            · go_simp
              refine hK.out _ _ (trivial) (fun hHeld => ?_)
              clear hK K
              refine wpAnyH_ready (rs := [1]) (by kernel_rfl) (by simp) ?_
              refine AllReadyH.cons rfl (fun K hK => ?_) ?_
              · go_simp
                refine hK.out _ _ hHeld (fun hHeld => ?_)
                clear hK K
                refine wpAnyH_ready (rs := [6]) (by kernel_rfl) (by simp) ?_
                refine AllReadyH.cons rfl (fun K hK => ?_) ?_
                · refine step_append_lies _ rfl (.tmp 27) (.tmp 31) 24 rfl (B + 1 + 1 + 1) 77 i1 _ 2 32 Try.underlying24 hj0 hy0 hy1 hy2 rfl (by decide) v k ((List.range (k * 2)).map f) rfl ((KeptBut.owns (g := B + 1) HK4.out HOWND.out (by omega)).alloc _) ⟨w4.heap.size, 0, none⟩ 1 1 [.slice (some ⟨g, 0, none⟩) j j, .int .i64 (t : Int)] rfl rfl (news_two w4 _ _ _) (by simp [Value.oneCell']) (by decide) (by unfold maxLen; omega) (by omega) (by have := HS3D.out; have := HK4.out.size; simp; omega) _ rfl ?_; intro g5 cap5 w5 hown5 hgrow5 hloc5 _; have hb5 := grown_below hgrow5 HOWND.out (by have := HS3D.out; have := HK4.out.size; simp; omega); have d5 := cell_below (d4a (.cells #[.slice (some ⟨g, 0, none⟩) j j, .int .i64 (t : Int)] 77)) hb5 (by omega); have e5 := frozen_below (frozen_but (g := B + 1) f3d HK4.out HK2D.out (by omega)) (below1' w4 (.cells #[.slice (some ⟨g, 0, none⟩) j j, .int .i64 (t : Int)] 77)) hb5 (Nat.lt_of_lt_of_le HK2D.out HK4.out.size) (by omega)
                  refine hK.out _ _ (trivial) (fun hHeld => ?_)
                  clear hK K
                  refine wpAnyH_take (i := 7) (oi := _) (v := ?_) rfl (by kernel_rfl) (by kernel_rfl) (by kernel_rfl) (fun _ _ _ h => h) (Or.inl ⟨by rfl, ?_⟩) (by assumption) ?_
                  rotate_left
                  · intro w hSw; (try dsimp only at hSw); go_simp; try with_reducible rfl
                  simp only [Act.put]
                  refine wpAnyH_ready (rs := [8]) (by kernel_rfl) (by simp) ?_
                  refine AllReadyH.cons rfl (fun K hK => ?_) ?_
                  · go_simp
                    refine hK.out _ _ (trivial) (fun hHeld => ?_)
                    clear hK K
                    refine wpAnyH_done (by kernel_rfl) ?_ _
                    have HKW : Hid (KeptBut (B + 1) wr w4) := ⟨HK4.out.os, HK4.out.tape, HK4.out.output, HK4.out.size, HK4.out.block⟩
                    have HRW : Hid (RowOwn g (g + 1) (w4.alloc (.cells #[.slice (some ⟨g, 0, none⟩) j j, .int .i64 (t : Int)] 77)) (some ⟨g, 0, none⟩) l) := by
                      by_cases h0 : l = []
                      · exact .inl h0
                      · refine .inr ⟨g, rfl, Nat.le_refl _, Nat.lt_succ_self _, ?_⟩
                        rw [HLL.out]
                        exact (blk_but HBG.out HKW.out (by have := HGB.out; omega)).alloc _
                    have HD5 : Hid (LaidO (B + 1 + 1 + 1) (g + 1) w5 (.slice (some ⟨g5, 0, none⟩) (k + 1) cap5) (L ++ [(l, (t : Int))])) := by
                      refine LaidO.snoc (M := g) (M' := g + 1) (w := w4.alloc (.cells #[.slice (some ⟨g, 0, none⟩) j j, .int .i64 (t : Int)] 77)) (v := v) (f := f) (R := R) (C := C) (ra := some ⟨g, 0, none⟩) (rc := j) (fun i hi => ?_) HRW.out ?_ HGB.out (Nat.le_succ _) (by have := HSI.out; have := HKW.out.size; simp; omega) hgrow5 ?_ ?_
                      · obtain ⟨p1, p2, p3⟩ := HROWS.out i hi
                        refine ⟨p1, ?_, p3⟩
                        rcases p2 with h | ⟨c, e, h1, h2, h3⟩
                        · exact .inl h
                        · exact .inr ⟨c, e, h1, h2, (blk_but h3 HKW.out (by omega)).alloc _⟩
                      · intro _ c o e hc
                        simp only [Option.some.injEq, Addr.mk.injEq] at e
                        have := HVG.out c hc
                        omega
                      · rcases hloc5 with h | h
                        · exact .inl (by rw [h]; rfl)
                        · exact .inr (by rw [h]; rfl)
                      · rw [HLN.out, HLL.out]; exact hown5
                    have HB45 : Hid (Below (B + 1 + 1 + 1) w4 w5) := ((Below.refl _ w4).alloc (by have := HS3.out; have := HKW.out.size; omega) _).trans hb5
                    have HRD5 : Hid (RdAt 80 (B + 1) s (rn st' 1000000).2 w5) := HRD4.out.below HB45.out (by omega)
                    have HP5 : Hid (Blk w5 B 1 (fun _ => .slice none 0 0)) := (blk_but HPI.out HKW.out (by omega)).of_block (HB45.out.block _ (by omega))
                    have HV5 : Hid (Blk w5 (B + 1 + 1) 1 (fun _ => v)) := (blk_but HVI.out HKW.out (by omega)).of_block (HB45.out.block _ (by omega))
                    have HL5 : Hid (Below B w w5) := (HLI.out.trans (HKW.out.to_below (B := B) (by omega) (by have := HS3.out; omega))).trans (HB45.out.mono (by omega))
                    have HG5 : Hid (g + 1 ≤ w5.heap.size) := by have := HSI.out; have := HKW.out.size; have := HB45.out.size; show _ ≤ _; omega
                    have HIT : Hid (readItem st = ((l, (t : Int)), (rn st' 1000000).2)) := by
                      show _ = _
                      simp only [readItem]
                      rw [← HQ.out, ← HST2.out, HL0.out, ← HT.out]
                    clear hown5 hgrow5 hloc5 hb5 d5 e5 d4 d4a hHeld HRD4 HK4 c3 f3 c3d f3d
                    go_wp2
                    go_roundw
                    case rel =>
                      have hgb := HGB.out; have hg5 := HG5.out
                      refine ⟨k + 1, L ++ [(l, (t : Int))], (rn st' 1000000).2, .slice (some ⟨g5, 0, none⟩) (k + 1) cap5, by go_num, by omega, ?_, by show _ = _; rw [List.length_append, HLN.out]; rfl, ?_, (HV5.out.set 0 (by omega) _).congr (fun i hi => by simp [show i = 0 by omega]), ?_, HP5.out.of_block (Below.heap_setCell _ _ _ _ (by simp; omega)), HL5.out.setCell (by simp; omega) _, by show _ ≤ _; simp; omega⟩
                      · show _ = _
                        rw [HE.out, show N - k = (N - (k + 1)) + 1 by omega, readItems_succ, HIT.out]
                        simp
                      · obtain ⟨p, f, h1, h2⟩ := HRD5.out
                        exact ⟨p, f, by rw [Below.heap_setCell _ _ _ _ (by simp)]; exact h1, h2⟩
                      · exact (HD5.out.kept (p := fun c => c = B + 1 + 1) ((KeptP.refl (fun c => c = B + 1 + 1) w5).setCell (g := B + 1 + 1) rfl _) (fun c hc => by omega)).wide (by simp; omega)
                    case measure => simp [intOf]; omega
                  exact AllReadyH.nil
                exact AllReadyH.nil
              exact AllReadyH.nil
            exact AllReadyH.nil
          exact AllReadyH.nil
    · obtain rfl : k = N := by omega
      have HF : Hid (readItems k st0 = (L, st)) := by
        have h := HE.out
        rw [Nat.sub_self] at h
        simpa [Hid, readItems] using h
      obtain ⟨e0, HE0⟩ : ∃ e0 : Bool, Hid (e0 = decide (st = some [])) := ⟨_, rfl⟩
      obtain ⟨r, HR⟩ : ∃ r : Bool, Hid (r = okBag L) := ⟨_, rfl⟩
      have HI : Hid (implRead s.data.toList = (L, e0 && r)) := by
        show _ = _
        simp only [implRead]
        rw [← HN.out, ← HST.out, HF.out, HE0.out, HR.out]
      have HSM : Hid (∀ i, i < k → (at' L i).1.length ≤ 1048576) := by
        intro i hi
        have h := readItems_small k st0 i hi
        rw [HF.out] at h
        exact Nat.le_trans h (by omega)
      obtain ⟨a, cap, rfl, hown⟩ := HLA.out.own (Nat.le_refl _)
      have HOWN : Hid (BagOwn (B + 1 + 1 + 1) wr.heap.size wr a L) := hown
      rw [HLN.out] at HV
      have c2 := HV.out.cell (i := 0) (by omega)
      have cp := HP.out.cell (i := 0) (by omega)
      have fp := HP.out.frozen 0
      have HSV : Hid (B + 1 + 1 < wr.heap.size) := HV.out.lt
      clear hown HE HF HLA HV HP
      go_wp2_with fail
      refine (isAtEnd_any (B + 1) s st e0 wr HRD.out HE0.out).mono ?_
      rintro e w1 ⟨rfl, hb1⟩
      have d2 := cell_below c2 hb1 HSV.out
      have dp := cell_below cp hb1 (by have := HSV.out; omega)
      have gp := frozen_below' fp hb1 (by have := HSV.out; omega)
      have HB1 : Hid (Below B w w1) := HL.out.trans (hb1.mono (by have := HSV.out; omega))
      have HO1 : Hid (BagOwn (B + 1 + 1 + 1) wr.heap.size w1 a L) := HOWN.out.below hb1 (Nat.le_refl _)
      have HZ1 : Hid (wr.heap.size ≤ w1.heap.size) := hb1.size
      clear c2 cp fp hb1 HOWN HRD HL
      rcases Bool.eq_false_or_eq_true e0 with he | he
      · subst he
        go_wp2_with fail
        refine (bagOk_any (B + 1 + 1 + 1) wr.heap.size a k cap L r _ (HO1.out.toIn) HZ1.out HLN.out (by omega) HSM.out HR.out).mono ?_
        rintro e w2 ⟨rfl, hb2⟩
        have e2 := cell_below d2 hb2 (by have := HSV.out; have := HZ1.out; omega)
        have ep := cell_below dp hb2 (by have := HSV.out; have := HZ1.out; omega)
        have hp2 := frozen_below' gp hb2 (by have := HSV.out; have := HZ1.out; omega)
        have HB2 : Hid (Below B w w2) := HB1.out.trans (hb2.mono (by have := HSV.out; have := HZ1.out; omega))
        have HO2 : Hid (BagOwn (B + 1 + 1 + 1) wr.heap.size w2 a L) := HO1.out.below hb2 HZ1.out
        have HZ2 : Hid (wr.heap.size ≤ w2.heap.size) := Nat.le_trans HZ1.out hb2.size
        clear d2 dp gp hb2 HO1 HB1 HZ1
        rcases Bool.eq_false_or_eq_true r with hr | hr
        · subst hr
          go_wp2
          refine bodyPost_ret (v := .tuple #[.agg #[.slice a k cap], .bool true]) (by simp [results, Try.results17, go_sem, ep]) rfl ?_
          refine ⟨.slice a k cap, true, by simp, by show _ = _; rw [HI.out]; rfl, ⟨a, cap, by rw [HI.out]; simp [HLN.out], ?_⟩, ?_⟩
          · rw [HI.out, ← HB.out]
            show BagOwn _ _ _ a L
            exact (HO2.out.kept (p := fun c => c = B) ((KeptP.refl (fun c => c = B) w2).setCell (g := B) rfl _) HZ2.out (fun c hc _ e => by omega)).wide (by omega) (by simpa using HZ2.out)
          · rw [← HB.out]; exact HB2.out.setCell (by simp) _
        · subst hr
          go_wp2
          refine bodyPost_ret (v := .tuple #[.agg #[.slice none 0 0], .bool false]) (by simp [results, Try.results17, go_sem, ep]) rfl ?_
          refine ⟨.slice none 0 0, false, by simp, by show _ = _; rw [HI.out]; rfl, ⟨none, 0, by simp, .inl (by simp)⟩, ?_⟩
          rw [← HB.out]; exact HB2.out.setCell (by simp) _
      · subst he
        go_wp2
        refine bodyPost_ret (v := .tuple #[.agg #[.slice none 0 0], .bool false]) (by simp [results, Try.results17, go_sem, dp]) rfl ?_
        refine ⟨.slice none 0 0, false, by simp, by show _ = _; rw [HI.out]; rfl, ⟨none, 0, by simp, .inl (by simp)⟩, ?_⟩
        rw [← HB.out]; exact HB1.out.setCell (by simp) _
end Go.Proofs.Ytelikebpddhncaa
