/-
  spec.ReadGraph.
-/
import Derived.Test.YtelikebpddhncaaGRdI
import Derived.Test.YtelikebpddhncaaGTxtS
import Derived.Test.YtelikebpddhncaaSRd
namespace Go.Proofs.Ytelikebpddhncaa
open Go.RowKit

theorem rb_lt (st : St) : (rb st).1 < 256 := by
  unfold rb
  split
  · omega
  · omega
  · rename_i c r; exact c.toNat_lt

set_option maxHeartbeats 4000000 in
set_option maxRecDepth 100000 in
theorem specReadG_any (s : ByteArray) (w : World) (hs : s.size ≤ 1048576) :
    Calls Try.prog 39 #[.string s] w fun e w' => ∃ (z : Int) (v : Value) (ok : Bool), e = .returned (.tuple #[.agg #[.int .i64 z, v], .bool ok]) ∧ Hid (ok = (implReadG s.data.toList).2) ∧ Hid (z = if ok = true then (implReadG s.data.toList).1.1 else 0) ∧ Hid (∃ a cap, v = .slice a (if ok = true then (implReadG s.data.toList).1.2 else []).length cap ∧ EdgesOwn w.heap.size w'.heap.size w' a (if ok = true then (implReadG s.data.toList).1.2 else [])) ∧ Hid (Below w.heap.size w w') := by
  obtain ⟨i1, hj0, hy0, hy1, hy2⟩ := info_parts Try.info42
  obtain ⟨B, HB⟩ : ∃ B, Hid (B = w.heap.size) := ⟨_, rfl⟩
  go_enter Try.func39, Try.ntmps39
  go_wp2_with fail
  rw [← HB.out]
  have hrd0 : RdAt 90 (B + 1) s (some s.data.toList) ((w.alloc (.cells #[.int .i64 0, .slice none 0 0] 37)).alloc (.cells #[.string s, .int .i64 0, .bool false] 90)) := by
    refine ⟨0, false, ?_, Nat.zero_le _, rfl⟩
    rw [HB.out]
    have := heap_new (w.alloc (.cells #[.int .i64 0, .slice none 0 0] 37)) (.cells #[.string s, .int .i64 0, .bool false] 90)
    simpa using this
  refine (l03Var_any (B + 1) s (some s.data.toList) _ hrd0 hs).mono ?_
  rintro e w1 ⟨Z, rfl, HZ, HRD1, HK1⟩
  have HP0 : Hid (Blk w1 B 2 (fun i => if i = 0 then .int .i64 0 else .slice none 0 0)) := blk_but ((blk_two w B HB.out _ _ _).alloc _) HK1.out (by omega)
  have HL1 : Hid (Below B w w1) := by
    have h := HK1.out.to_below (B := B) (by omega) (by rw [HB.out]; simp; omega)
    rw [HB.out] at h ⊢
    exact (below2 w _ _).trans h
  have HS1 : Hid (B + 1 + 1 ≤ w1.heap.size) := by have := HK1.out.size; rw [HB.out]; simpa [Hid] using this
  obtain ⟨P, HP⟩ : ∃ P, Hid (P = w1.heap.size) := ⟨_, rfl⟩
  have HG0 : Hid (GL 90 B P (P + 1) w (w1.alloc (.cells #[.int .i64 (Z : Int), .slice none 0 0] 37)) s (rn (some s.data.toList) 1000000000).2 (Z : Int) (.slice none 0 0) []) := by
    have h1 := HS1.out
    refine ⟨HRD1.out.below (below1 w1 _) (by omega), blk_two w1 P HP.out _ _ _, World.ownsRow_nil _ _ _ _, HP0.out.alloc _, HL1.out.alloc (by omega) _, by rw [HP.out]; omega, by rw [HP.out]; simp, fun k hk => by simp [Value.ownBlock] at hk⟩
  clear hrd0 HK1 HRD1 HP0 HL1 HS1
  go_wp2_with fail
  rw [← HP.out]
  refine (l03Var_any (B + 1) s (rn (some s.data.toList) 1000000000).2 _ HG0.out.rd hs).mono ?_
  rintro e w2 ⟨N0, rfl, HN0, HRD2, HK2⟩
  have HG2 : Hid (GL 90 B P (P + 1) w w2 s (rn (rn (some s.data.toList) 1000000000).2 1000000000).2 (Z : Int) (.slice none 0 0) []) := HG0.out.num HK2.out HRD2.out
  obtain ⟨N, hN⟩ : ∃ N, N = min N0 50 := ⟨_, rfl⟩
  have hN4 : N ≤ 50 := by omega
  obtain ⟨st0, HST⟩ : ∃ st0, Hid (st0 = (rn (rn (some s.data.toList) 1000000000).2 1000000000).2) := ⟨_, rfl⟩
  rw [← HST.out] at HG2
  have HN : Hid (N = min (rn (rn (some s.data.toList) 1000000000).2 1000000000).1 50) := by rw [← HN0.out]; exact hN
  clear HG0 HK2 HRD2
  go_wp2
  go_loopw [7] (fun i wr => ∃ (k : Nat) (L : List Ed) (st : St) (v : Value) (M : Nat), i = .int .i64 k ∧ k ≤ N ∧ Hid (sEdges N st0 = (L ++ (sEdges (N - k) st).1, (sEdges (N - k) st).2)) ∧ Hid (L.length = k) ∧ Hid (GL 90 B P M w wr s st (Z : Int) v L)) (fun i _ => N - (intOf i).toNat)
  case atStart => exact ⟨0, [], st0, .slice none 0 0, P + 1, rfl, by omega, by show _ = _; simp, rfl, HG2⟩
  case round =>
    obtain ⟨k, L, st, v, M, rfl, hk, HE, HLN, HG⟩ := hrel
    have cf := HG.out.rd.flag
    obtain ⟨bad, hbad⟩ : ∃ bad, st.isNone = bad := ⟨_, rfl⟩
    rw [hbad] at cf
    have HBAD : Hid (st.isNone = bad) := hbad
    clear hbad
    by_cases hgo : k < N ∧ bad = false
    · obtain ⟨hlt, hbf⟩ := hgo
      subst hbf
      have HNN : Hid (st ≠ none) := by intro e; have := HBAD.out; rw [e] at this; cases this
      have hd0 : decide ((k : Int) < (N0 : Int)) = true := by simp; omega
      have hd5 : decide ((k : Int) < 50) = true := by simp; omega
      go_wp2_with fail
      refine (l03Var_any (B + 1) s st _ HG.out.rd hs).mono ?_
      rintro e w3 ⟨y0, rfl, HY0, HRD3, HK3⟩
      have HG3 : Hid (GL 90 B P M w w3 s (rn st 1000000000).2 (Z : Int) v L) := HG.out.num HK3.out HRD3.out
      obtain ⟨E, HEE⟩ : ∃ E, Hid (E = w3.heap.size) := ⟨_, rfl⟩
      have HME : Hid (M ≤ E) := by rw [HEE.out]; exact HG3.out.size
      have hlo := HG3.out.low
      have hBE : E ≠ B + 1 := by have := HME.out; omega
      clear hlo
      have HG4' : Hid (GL 90 B P M w (w3.alloc (.cells #[.int .i64 (y0 : Int), .int .u8 0, .int .i64 0] 42)) s (rn st 1000000000).2 (Z : Int) v L) := HG3.out.over ((Below.refl _ _).alloc HG3.out.size _)
      have HX4' : Hid (Blk (w3.alloc (.cells #[.int .i64 (y0 : Int), .int .u8 0, .int .i64 0] 42)) E 3 (fun i => if i = 0 then .int .i64 (y0 : Int) else if i = 1 then .int .u8 0 else .int .i64 0)) := blk_three w3 E HEE.out _ _ _ _
      clear HG HG3 HK3 HRD3 cf
      go_wp2_with fail
      rw [← HEE.out]
      refine (l03Byte_any (B + 1) s (rn st 1000000000).2 _ HG4'.out.rd hs).mono ?_
      rintro e w5 ⟨y1, rfl, HY1, HRD5, HK5⟩
      have hy8 : (y1 : Int) % 256 = (y1 : Int) := by have := rb_lt (rn st 1000000000).2; rw [← HY1.out] at this; omega
      have HG5 : Hid (GL 90 B P M w w5 s (rb (rn st 1000000000).2).2 (Z : Int) v L) := HG4'.out.num HK5.out HRD5.out
      have HX5 : Hid (Blk w5 E 3 (fun i => if i = 0 then .int .i64 (y0 : Int) else if i = 1 then .int .u8 0 else .int .i64 0)) := blk_but HX4'.out HK5.out hBE
      have HG5' : Hid (GL 90 B P M w (w5.setCell ⟨E, 1, none⟩ (.int .u8 (y1 : Int))) s (rb (rn st 1000000000).2).2 (Z : Int) v L) := HG5.out.over ((Below.refl _ _).setCell HME.out _)
      have HX5' : Hid (Blk (w5.setCell ⟨E, 1, none⟩ (.int .u8 (y1 : Int))) E 3 (fun i => if i = 0 then .int .i64 (y0 : Int) else if i = 1 then .int .u8 (y1 : Int) else .int .i64 0)) := HX5.out.put1 _
      obtain ⟨x50, x51, x52⟩ := blk_three_set HX5.out
      have xf5 := HX5.out.frozen 1
      clear HG4' HX4' HK5 HRD5 HG5 HX5
      go_wp2_with fail
      refine (l03Var_any (B + 1) s (rb (rn st 1000000000).2).2 _ HG5'.out.rd hs).mono ?_
      rintro e w6 ⟨y2, rfl, HY2, HRD6, HK6⟩
      obtain ⟨st6, HST6⟩ : ∃ st6, Hid (st6 = (rn (rb (rn st 1000000000).2).2 1000000000).2) := ⟨_, rfl⟩
      rw [← HST6.out] at HRD6
      have HG6 : Hid (GL 90 B P M w w6 s st6 (Z : Int) v L) := HG5'.out.num HK6.out HRD6.out
      have HX6 : Hid (Blk w6 E 3 (fun i => if i = 0 then .int .i64 (y0 : Int) else if i = 1 then .int .u8 (y1 : Int) else .int .i64 0)) := blk_but HX5'.out HK6.out hBE
      obtain ⟨w7, HW7⟩ : ∃ w7, Hid (w7 = w6.setCell ⟨E, 2, none⟩ (.int .i64 (y2 : Int))) := ⟨_, rfl⟩
      have HG7 : Hid (GL 90 B P M w w7 s st6 (Z : Int) v L) := by rw [HW7.out]; exact HG6.out.over ((Below.refl _ _).setCell HME.out _)
      obtain ⟨d0, d1, d2⟩ : w7.cell? ⟨E, 0, none⟩ = some (.int .i64 (y0 : Int)) ∧ w7.cell? ⟨E, 1, none⟩ = some (.int .u8 (y1 : Int)) ∧ w7.cell? ⟨E, 2, none⟩ = some (.int .i64 (y2 : Int)) := by rw [HW7.out]; exact blk_three_set (HX6.out.put2 _)
      have xf6 := HX6.out.frozen 2
      obtain ⟨x60, x61, x62⟩ := blk_three_set HX6.out
      have c1 : w7.cell? ⟨P, 1, none⟩ = some v := HG7.out.g.cell (i := 1) (by omega)
      have hown : (w7.alloc (.cells #[.int .i64 (y0 : Int), .int .u8 (y1 : Int), .int .i64 (y2 : Int)] 42)).ownsRow (P + 1) 42 3 v k (ecells L) := by have h := HG7.out.own.alloc (.cells #[.int .i64 (y0 : Int), .int .u8 (y1 : Int), .int .i64 (y2 : Int)] 42); rwa [HLN.out] at h
      have hP7 : P + 1 ≤ w7.heap.size := by have := HG7.out.low; have := HG7.out.size; omega
      have HG8 : Hid (GL 90 B P M w (w7.alloc (.cells #[.int .i64 (y0 : Int), .int .u8 (y1 : Int), .int .i64 (y2 : Int)] 42)) s st6 (Z : Int) v L) := HG7.out.over ((Below.refl _ _).alloc HG7.out.size _)
      clear x50 x51 x52 xf5 HG5' HX5' HK6 HRD6 HG6
      go_upto_region 10 with fail
      rw [← HW7.out]
      clear x60 x61 x62 xf6 HW7
      go_wp2_with (at_builtin; refine wpList_append_lies _ rfl (.tmp 46) (.tmp 48) 35 rfl (P + 1) 42 i1 _ 3 24 Try.underlying35 hj0 hy0 hy1 hy2 rfl (by decide) v k (ecells L) rfl hown ⟨w7.heap.size, 0, none⟩ 1 1 [.int .i64 (y0 : Int), .int .u8 (y1 : Int), .int .i64 (y2 : Int)] rfl rfl (news_three w7 _ _ _ _) (by simp [Value.oneCell']) (by decide) (by unfold maxLen; omega) (by omega) (by simp; omega) _ rfl ?_)
      intro g9 cap9 w9 hown9 hgrow9 _ _
      have HG9 : Hid (GL 90 B P w9.heap.size w (w9.setCell ⟨P, 1, none⟩ (.slice (some ⟨g9, 0, none⟩) (k + 1) cap9)) s st6 (Z : Int) (.slice (some ⟨g9, 0, none⟩) (k + 1) cap9) (L ++ [((y0 : Int), (y1 : Int), (y2 : Int))])) := HG8.out.push hgrow9 (by rw [HLN.out]; exact hown9)
      have hb9 : Below (P + 1) (w7.alloc (.cells #[.int .i64 (y0 : Int), .int .u8 (y1 : Int), .int .i64 (y2 : Int)] 42)) w9 := (Below.refl _ _).grown hgrow9 (by simp; omega) (fun k hk => (hown.lt k hk).1)
      have k9 := HG8.out.g.of_block (hb9.block P (by omega))
      have c9 : w9.cell? ⟨P, 1, none⟩ = some v := k9.cell (i := 1) (by omega)
      have f9 : w9.frozen? ⟨P, 1, none⟩ = false := k9.frozen 1
      clear k9 hb9 hown hown9 hgrow9 HG8 HG7
      go_wp2
      go_roundw
      case rel =>
        refine ⟨k + 1, L ++ [((y0 : Int), (y1 : Int), (y2 : Int))], st6, _, _, by go_num, by omega, ?_, by show _ = _; rw [List.length_append, HLN.out]; rfl, HG9⟩
        show _ = _
        rw [HE.out, show N - k = (N - (k + 1)) + 1 by omega, sEdges_succ _ HNN.out]
        have e : readEdge 1000000000 st = (((y0 : Int), (y1 : Int), (y2 : Int)), st6) := by unfold readEdge; rw [← HY0.out, ← HY1.out, ← HY2.out, ← HST6.out]
        rw [e]; simp
      case measure => simp [intOf]; omega
    · have HFN : Hid (sEdges (N - k) st = ([], st)) := by
        show _ = _
        by_cases h0 : k < N
        · have hb : bad = true := by rcases Bool.eq_false_or_eq_true bad with h | h; exact h; exact absurd ⟨h0, h⟩ hgo
          have : st = none := by have := HBAD.out; rw [hb] at this; cases st with | none => rfl | some r => cases this
          rw [this, sEdges_none]
        · rw [show N - k = 0 by omega, sEdges_zero]
      have HSS : Hid (sEdges N st0 = (L, st)) := by show _ = _; rw [HE.out, HFN.out]; simp
      have HSP : Hid (specReadG s.data.toList = (((Z : Int), L), decide (st ≠ none) && okG (Z : Int) L && decide (gtxtTo (Z : Int) L L.length = s.data.toList))) := by
        show _ = _
        unfold specReadG
        simp only []
        rw [← HZ.out, ← HN.out, ← HST.out, HSS.out]
      obtain ⟨a, cap, rfl, HEO⟩ := edges_own HG.out.own rfl
      rw [HLN.out] at HG
      have HEO' : Hid (EdgesOwn (P + 1) wr.heap.size wr a L) := HEO
      have g0 : wr.cell? ⟨P, 0, none⟩ = some (.int .i64 (Z : Int)) := HG.out.g.cell (i := 0) (by omega)
      have g1 : wr.cell? ⟨P, 1, none⟩ = some (.slice a k cap) := HG.out.g.cell (i := 1) (by omega)
      have HRES : Hid (∀ w0, Below wr.heap.size wr w0 → Calls Try.prog 52 #[gv (Z : Int) a k cap] w0 fun e w' => ∃ (t : ByteArray) (ok : Bool), e = .returned (.tuple #[.string t, .bool ok]) ∧ Hid (ok = okG (Z : Int) L ∧ t = gtxtOf (Z : Int) L) ∧ Hid (Below wr.heap.size wr w')) := fun w0 h =>
        (specGText_any (P + 1) wr.heap.size (Z : Int) a k cap L w0 (HEO'.out.toIn.below h (Nat.le_refl _)) h.size HLN.out (by omega)).mono fun _ _ ⟨t, ok, h1, h2, h3⟩ => ⟨t, ok, h1, h2, h.trans (h3.out.mono h.size)⟩
      clear HEO HE HFN
      have mk : Hid (∀ w2, Below wr.heap.size wr w2 → GL 90 B P M w w2 s st (Z : Int) (.slice a k cap) L ∧ EdgesOwn (P + 1) wr.heap.size w2 a L ∧ wr.heap.size ≤ w2.heap.size) := fun w2 h => ⟨HG.out.over (h.mono HG.out.size), HEO'.out.below h (Nat.le_refl _), h.size⟩
      have fin : Hid (∀ w2 (t : ByteArray) (ok : Bool), GL 90 B P M w w2 s st (Z : Int) (.slice a k cap) L → (ok = okG (Z : Int) L ∧ t = gtxtOf (Z : Int) L) → ((implReadG s.data.toList).2 = (!bad && ok && decide (t = s)) ∧ ((implReadG s.data.toList).2 = true → (implReadG s.data.toList).1 = ((Z : Int), L)))) := by
        intro w2 t ok hg ⟨hok, htx⟩
        have hb : decide (st ≠ none) = !bad := by rw [← HBAD.out]; cases st <;> simp
        have he : (ok && decide (gtxtTo (Z : Int) L L.length = s.data.toList)) = (ok && decide (t = s)) := by
          rcases Bool.eq_false_or_eq_true ok with h | h
          · rw [h, Bool.true_and, Bool.true_and, decide_eq_decide]
            have ht : t.data.toList = gtxtTo (Z : Int) L L.length := by rw [htx]; unfold gtxtOf; rw [← hok, if_pos h]
            rw [← ht]
            constructor
            · intro e; exact ByteArray.ext (Array.toList_inj.1 e)
            · intro e; rw [e]
          · rw [h]; rfl
        have h2 : (specReadG s.data.toList).2 = (!bad && ok && decide (t = s)) := by rw [HSP.out]; simp only []; rw [hb, ← hok, Bool.and_assoc, he, Bool.and_assoc]
        rcases hv : (specReadG s.data.toList).2 with _ | _
        · have h3 := specG_no hv
          rw [h3, ← h2, hv]
          exact ⟨rfl, fun h => by cases h⟩
        · have h3 := specG_yes hv
          rw [h3, ← h2, hv, HSP.out]
          exact ⟨rfl, fun _ => rfl⟩
      by_cases hk50 : k < N0
      · have hd0 : decide ((k : Int) < (N0 : Int)) = true := by simp; omega
        by_cases hk5 : k < 50
        · have hd5 : decide ((k : Int) < 50) = true := by simp; omega
          have hb : bad = true := by rcases Bool.eq_false_or_eq_true bad with h | h; exact h; exact absurd ⟨by omega, h⟩ hgo
          subst hb
          go_wp2_with fail
          refine (HRES.out _ (Below.refl _ _)).mono ?_
          rintro e w2 ⟨t, ok, rfl, HT, HB2⟩
          have HG2' : Hid (GL 90 B P M w w2 s st (Z : Int) (.slice a k cap) L) := (mk.out w2 HB2.out).1
          have HE2 : Hid (EdgesOwn (P + 1) wr.heap.size w2 a L) := (mk.out w2 HB2.out).2.1
          have HS2 : Hid (wr.heap.size ≤ w2.heap.size) := (mk.out w2 HB2.out).2.2
          have HF : Hid ((implReadG s.data.toList).2 = (!true && ok && decide (t = s)) ∧ ((implReadG s.data.toList).2 = true → (implReadG s.data.toList).1 = ((Z : Int), L))) := fin.out w2 t ok HG2'.out HT.out
          have cf2 := HG2'.out.rd.flag
          rw [HBAD.out] at cf2
          have g02 : w2.cell? ⟨P, 0, none⟩ = some (.int .i64 (Z : Int)) := HG2'.out.g.cell (i := 0) (by omega)
          have g12 : w2.cell? ⟨P, 1, none⟩ = some (.slice a k cap) := HG2'.out.g.cell (i := 1) (by omega)
          have q0 : w2.cell? ⟨B, 0, none⟩ = some (.int .i64 0) := HG2'.out.res.cell (i := 0) (by omega)
          have q1 : w2.cell? ⟨B, 1, none⟩ = some (.slice none 0 0) := HG2'.out.res.cell (i := 1) (by omega)
          have qf0 : w2.frozen? ⟨B, 0, none⟩ = false := HG2'.out.res.frozen 0
          have qf1 : w2.frozen? ⟨B, 1, none⟩ = false := HG2'.out.res.frozen 1
          have hBB : B ≠ P := by have := HG2'.out.low; omega
          have HBl : Hid (B < P + 1) := by have := HG2'.out.low; show _ < _; omega
          clear cf g0 g1 HT HG HEO' mk fin HRES HB2 hgo
          go_wp2
          clear cf2 g02 g12
          refine bodyPost_ret (v := .tuple #[.agg #[.int .i64 0, .slice none 0 0], .bool false]) (by simp [results, Try.results39, go_sem, q0, q1]) rfl ?_
          refine ⟨0, _, false, rfl, by show _ = _; rw [HF.out.1]; simp, rfl, ⟨none, 0, rfl, .inl rfl⟩, ?_⟩
          have h := (HG2'.out.bel.setCell (p := ⟨B, 0, none⟩) (by simp) (.int .i64 0)).setCell (p := ⟨B, 1, none⟩) (by simp) (.slice none 0 0)
          show Below _ _ _
          rw [← HB.out]; exact h
        · have hd5 : decide ((k : Int) < 50) = false := by simp; omega
          go_wp2_with fail
          refine (HRES.out _ (Below.refl _ _)).mono ?_
          rintro e w2 ⟨t, ok, rfl, HT, HB2⟩
          have HG2' : Hid (GL 90 B P M w w2 s st (Z : Int) (.slice a k cap) L) := (mk.out w2 HB2.out).1
          have HE2 : Hid (EdgesOwn (P + 1) wr.heap.size w2 a L) := (mk.out w2 HB2.out).2.1
          have HS2 : Hid (wr.heap.size ≤ w2.heap.size) := (mk.out w2 HB2.out).2.2
          have HF : Hid ((implReadG s.data.toList).2 = (!bad && ok && decide (t = s)) ∧ ((implReadG s.data.toList).2 = true → (implReadG s.data.toList).1 = ((Z : Int), L))) := fin.out w2 t ok HG2'.out HT.out
          have cf2 := HG2'.out.rd.flag
          rw [HBAD.out] at cf2
          have g02 : w2.cell? ⟨P, 0, none⟩ = some (.int .i64 (Z : Int)) := HG2'.out.g.cell (i := 0) (by omega)
          have g12 : w2.cell? ⟨P, 1, none⟩ = some (.slice a k cap) := HG2'.out.g.cell (i := 1) (by omega)
          have q0 : w2.cell? ⟨B, 0, none⟩ = some (.int .i64 0) := HG2'.out.res.cell (i := 0) (by omega)
          have q1 : w2.cell? ⟨B, 1, none⟩ = some (.slice none 0 0) := HG2'.out.res.cell (i := 1) (by omega)
          have qf0 : w2.frozen? ⟨B, 0, none⟩ = false := HG2'.out.res.frozen 0
          have qf1 : w2.frozen? ⟨B, 1, none⟩ = false := HG2'.out.res.frozen 1
          have hBB : B ≠ P := by have := HG2'.out.low; omega
          have HBl : Hid (B < P + 1) := by have := HG2'.out.low; show _ < _; omega
          clear cf g0 g1 HT HG HEO' mk fin HRES HB2 hgo
          rcases Bool.eq_false_or_eq_true bad with hbd | hbd
          · subst hbd
            go_wp2
            clear cf2 g02 g12
            refine bodyPost_ret (v := .tuple #[.agg #[.int .i64 0, .slice none 0 0], .bool false]) (by simp [results, Try.results39, go_sem, q0, q1]) rfl ?_
            refine ⟨0, _, false, rfl, by show _ = _; rw [HF.out.1]; simp, rfl, ⟨none, 0, rfl, .inl rfl⟩, ?_⟩
            have h := (HG2'.out.bel.setCell (p := ⟨B, 0, none⟩) (by simp) (.int .i64 0)).setCell (p := ⟨B, 1, none⟩) (by simp) (.slice none 0 0)
            show Below _ _ _
            rw [← HB.out]; exact h
          · subst hbd
            rcases Bool.eq_false_or_eq_true ok with ho | ho
            · subst ho
              by_cases hts : t = s
              · subst hts
                go_wp2
                refine bodyPost_ret (v := .tuple #[.agg #[.int .i64 (Z : Int), .slice a k cap], .bool true]) (by simp [results, Try.results39, go_sem, q0, q1]) rfl ?_
                have hyes : (implReadG t.data.toList).2 = true := by rw [HF.out.1]; simp
                have h1 := HF.out.2 hyes
                refine ⟨(Z : Int), _, true, rfl, hyes.symm, by show _ = _; rw [h1]; rfl, ⟨a, cap, by rw [h1]; simp only [if_true]; rw [HLN.out], ?_⟩, ?_⟩
                · rw [h1]
                  have h := ((HE2.out.setCell (b := B) (j := 0) HBl.out (.int .i64 (Z : Int))).setCell (b := B) (j := 1) HBl.out (.slice a k cap))
                  have hb := HB.out
                  exact h.wide (by have := HBl.out; omega) (by simpa using HS2.out)
                · have h := (HG2'.out.bel.setCell (p := ⟨B, 0, none⟩) (by simp) (.int .i64 (Z : Int))).setCell (p := ⟨B, 1, none⟩) (by simp) (.slice a k cap)
                  show Below _ _ _
                  rw [← HB.out]; exact h
              · have hts1 : (!t.toList == s.toList) = true := by
                  simp only [Bool.not_eq_true', beq_eq_false_iff_ne]
                  intro e
                  exact hts (by simpa [ByteArray.toList_eq, ByteArray.ext_iff] using e)
                go_wp2
                clear cf2 g02 g12
                refine bodyPost_ret (v := .tuple #[.agg #[.int .i64 0, .slice none 0 0], .bool false]) (by simp [results, Try.results39, go_sem, q0, q1]) rfl ?_
                refine ⟨0, _, false, rfl, by show _ = _; rw [HF.out.1]; simp [hts], rfl, ⟨none, 0, rfl, .inl rfl⟩, ?_⟩
                have h := (HG2'.out.bel.setCell (p := ⟨B, 0, none⟩) (by simp) (.int .i64 0)).setCell (p := ⟨B, 1, none⟩) (by simp) (.slice none 0 0)
                show Below _ _ _
                rw [← HB.out]; exact h
            · subst ho
              go_wp2
              clear cf2 g02 g12
              refine bodyPost_ret (v := .tuple #[.agg #[.int .i64 0, .slice none 0 0], .bool false]) (by simp [results, Try.results39, go_sem, q0, q1]) rfl ?_
              refine ⟨0, _, false, rfl, by show _ = _; rw [HF.out.1]; simp, rfl, ⟨none, 0, rfl, .inl rfl⟩, ?_⟩
              have h := (HG2'.out.bel.setCell (p := ⟨B, 0, none⟩) (by simp) (.int .i64 0)).setCell (p := ⟨B, 1, none⟩) (by simp) (.slice none 0 0)
              show Below _ _ _
              rw [← HB.out]; exact h
      · have hd0 : decide ((k : Int) < (N0 : Int)) = false := by simp; omega
        go_wp2_with fail
        refine (HRES.out _ (Below.refl _ _)).mono ?_
        rintro e w2 ⟨t, ok, rfl, HT, HB2⟩
        have HG2' : Hid (GL 90 B P M w w2 s st (Z : Int) (.slice a k cap) L) := (mk.out w2 HB2.out).1
        have HE2 : Hid (EdgesOwn (P + 1) wr.heap.size w2 a L) := (mk.out w2 HB2.out).2.1
        have HS2 : Hid (wr.heap.size ≤ w2.heap.size) := (mk.out w2 HB2.out).2.2
        have HF : Hid ((implReadG s.data.toList).2 = (!bad && ok && decide (t = s)) ∧ ((implReadG s.data.toList).2 = true → (implReadG s.data.toList).1 = ((Z : Int), L))) := fin.out w2 t ok HG2'.out HT.out
        have cf2 := HG2'.out.rd.flag
        rw [HBAD.out] at cf2
        have g02 : w2.cell? ⟨P, 0, none⟩ = some (.int .i64 (Z : Int)) := HG2'.out.g.cell (i := 0) (by omega)
        have g12 : w2.cell? ⟨P, 1, none⟩ = some (.slice a k cap) := HG2'.out.g.cell (i := 1) (by omega)
        have q0 : w2.cell? ⟨B, 0, none⟩ = some (.int .i64 0) := HG2'.out.res.cell (i := 0) (by omega)
        have q1 : w2.cell? ⟨B, 1, none⟩ = some (.slice none 0 0) := HG2'.out.res.cell (i := 1) (by omega)
        have qf0 : w2.frozen? ⟨B, 0, none⟩ = false := HG2'.out.res.frozen 0
        have qf1 : w2.frozen? ⟨B, 1, none⟩ = false := HG2'.out.res.frozen 1
        have hBB : B ≠ P := by have := HG2'.out.low; omega
        have HBl : Hid (B < P + 1) := by have := HG2'.out.low; show _ < _; omega
        clear cf g0 g1 HT HG HEO' mk fin HRES HB2 hgo
        rcases Bool.eq_false_or_eq_true bad with hbd | hbd
        · subst hbd
          go_wp2
          clear cf2 g02 g12
          refine bodyPost_ret (v := .tuple #[.agg #[.int .i64 0, .slice none 0 0], .bool false]) (by simp [results, Try.results39, go_sem, q0, q1]) rfl ?_
          refine ⟨0, _, false, rfl, by show _ = _; rw [HF.out.1]; simp, rfl, ⟨none, 0, rfl, .inl rfl⟩, ?_⟩
          have h := (HG2'.out.bel.setCell (p := ⟨B, 0, none⟩) (by simp) (.int .i64 0)).setCell (p := ⟨B, 1, none⟩) (by simp) (.slice none 0 0)
          show Below _ _ _
          rw [← HB.out]; exact h
        · subst hbd
          rcases Bool.eq_false_or_eq_true ok with ho | ho
          · subst ho
            by_cases hts : t = s
            · subst hts
              go_wp2
              refine bodyPost_ret (v := .tuple #[.agg #[.int .i64 (Z : Int), .slice a k cap], .bool true]) (by simp [results, Try.results39, go_sem, q0, q1]) rfl ?_
              have hyes : (implReadG t.data.toList).2 = true := by rw [HF.out.1]; simp
              have h1 := HF.out.2 hyes
              refine ⟨(Z : Int), _, true, rfl, hyes.symm, by show _ = _; rw [h1]; rfl, ⟨a, cap, by rw [h1]; simp only [if_true]; rw [HLN.out], ?_⟩, ?_⟩
              · rw [h1]
                have h := ((HE2.out.setCell (b := B) (j := 0) HBl.out (.int .i64 (Z : Int))).setCell (b := B) (j := 1) HBl.out (.slice a k cap))
                have hb := HB.out
                exact h.wide (by have := HBl.out; omega) (by simpa using HS2.out)
              · have h := (HG2'.out.bel.setCell (p := ⟨B, 0, none⟩) (by simp) (.int .i64 (Z : Int))).setCell (p := ⟨B, 1, none⟩) (by simp) (.slice a k cap)
                show Below _ _ _
                rw [← HB.out]; exact h
            · have hts1 : (!t.toList == s.toList) = true := by
                simp only [Bool.not_eq_true', beq_eq_false_iff_ne]
                intro e
                exact hts (by simpa [ByteArray.toList_eq, ByteArray.ext_iff] using e)
              go_wp2
              clear cf2 g02 g12
              refine bodyPost_ret (v := .tuple #[.agg #[.int .i64 0, .slice none 0 0], .bool false]) (by simp [results, Try.results39, go_sem, q0, q1]) rfl ?_
              refine ⟨0, _, false, rfl, by show _ = _; rw [HF.out.1]; simp [hts], rfl, ⟨none, 0, rfl, .inl rfl⟩, ?_⟩
              have h := (HG2'.out.bel.setCell (p := ⟨B, 0, none⟩) (by simp) (.int .i64 0)).setCell (p := ⟨B, 1, none⟩) (by simp) (.slice none 0 0)
              show Below _ _ _
              rw [← HB.out]; exact h
          · subst ho
            go_wp2
            clear cf2 g02 g12
            refine bodyPost_ret (v := .tuple #[.agg #[.int .i64 0, .slice none 0 0], .bool false]) (by simp [results, Try.results39, go_sem, q0, q1]) rfl ?_
            refine ⟨0, _, false, rfl, by show _ = _; rw [HF.out.1]; simp, rfl, ⟨none, 0, rfl, .inl rfl⟩, ?_⟩
            have h := (HG2'.out.bel.setCell (p := ⟨B, 0, none⟩) (by simp) (.int .i64 0)).setCell (p := ⟨B, 1, none⟩) (by simp) (.slice none 0 0)
            show Below _ _ _
            rw [← HB.out]; exact h
end Go.Proofs.Ytelikebpddhncaa
