/-
  The model's l03Put.
-/
import Derived.Test.YtelikebpddhncaaPutM
namespace Go.Proofs.Ytelikebpddhncaa
open Go.RowKit

set_option maxHeartbeats 4000000 in
set_option maxRecDepth 100000 in
theorem l03Put_any (lo hi lo' hi' : Nat) (a ra : Option Addr) (n cap q rc : Nat) (l : List It) (r : List Int) (t : Int) (w : World) (ha : BagIn lo hi w a l) (hr : RowIn lo' hi' w ra r) (hh : hi ≤ w.heap.size) (hh' : hi' ≤ w.heap.size) (hn : l.length = n) (hq : r.length = q) (hm : n ≤ 1048576) (hm' : q ≤ 1048576) (hl : ∀ i, i < n → (at' l i).1.length ≤ 1048576) (ht : 0 ≤ t ∧ t ≤ 1000000) (hlt : ∀ i, i < n → 0 ≤ (at' l i).2 ∧ (at' l i).2 ≤ 1000000) (hlo : lo ≤ w.heap.size) :
    Calls Try.prog 114 #[.agg #[.slice a n cap], .slice ra q rc, .int .i64 t] w fun e w' => ∃ (a' : Option Addr) (n' cap' : Nat), e = .returned (.agg #[.slice a' n' cap']) ∧ Hid ((putL r t l).length = n') ∧ Hid (BagIn lo w'.heap.size w' a' (putL r t l)) ∧ Hid (Below w.heap.size w w') := by
  obtain ⟨i0, hi0, hz0, hz1, hz2⟩ := info_parts Try.info3
  obtain ⟨i1, hj0, hy0, hy1, hy2⟩ := info_parts Try.info77
  obtain ⟨B, HB⟩ : ∃ B, Hid (B = w.heap.size) := ⟨_, rfl⟩
  have HN : Hid (l.length = n) := hn
  have HQ : Hid (r.length = q) := hq
  have HA : Hid (BagIn lo hi w a l) := ha
  have HR : Hid (RowIn lo' hi' w ra r) := hr
  have HH : Hid (hi ≤ B) := by rw [HB.out]; exact hh
  have HH' : Hid (hi' ≤ B) := by rw [HB.out]; exact hh'
  have HLO : Hid (lo ≤ B) := by rw [HB.out]; exact hlo
  have HQL : Hid (∀ i, i < n → (at' l i).1.length ≤ 1048576) := hl
  have HTL : Hid (∀ i, i < n → 0 ≤ (at' l i).2 ∧ (at' l i).2 ≤ 1000000) := hlt
  have ht0 := ht.1
  have ht1 := ht.2
  clear ha hr hh hh' hn hq hl ht hlt hlo
  have HP0 : Hid (PutAt lo hi B (B + 1 + 1 + 1) w (((w.alloc (.cells #[.slice a n cap] 26)).alloc (.cells #[.slice none 0 0] 26)).alloc (.cells #[.slice none 0 0] 26)) (.slice a n cap) (.slice none 0 0) []) :=
    ⟨((blk_one w B HB.out _ _).alloc _).alloc _, (blk_one _ (B + 1) (by rw [HB.out]; simp) _ _).alloc _, blk_one _ (B + 1 + 1) (by rw [HB.out]; simp) _ _, LaidP.nil _ _ _ _ _, by rw [HB.out]; exact below3 w _ _ _, HH.out, Nat.le_refl _, by rw [HB.out]; simp, fun k hk => by simp [Value.ownBlock] at hk⟩
  go_enter Try.func114, Try.ntmps114
  go_wp2
  rw [← HB.out]
  go_loopw [8, 9] (fun d i wr => ∃ (k m : Nat) (dn : Bool) (L : List It) (v : Value), d = .bool dn ∧ i = .int .i64 k ∧ k ≤ n ∧ m ≤ k + (if dn = true then 1 else 0) ∧ Hid (L.length = m) ∧ Hid (putL r t l = L ++ (if dn = true then l.drop k else putL r t (l.drop k))) ∧ Hid (PutAt lo hi B wr.heap.size w wr (.slice a n cap) v L)) (fun _ i _ => n - (intOf i).toNat)
  case atStart => exact ⟨0, 0, false, [], .slice none 0 0, rfl, rfl, by omega, by simp, rfl, by show _ = _; simp, HP0.out.wide HP0.out.size (Nat.le_refl _)⟩
  case round =>
    obtain ⟨k, m, dn, L, v, rfl, rfl, hk, hmk, HLN, HE, HP⟩ := hrel
    have c0 := HP.out.box.cell (i := 0) (by omega)
    by_cases hlt : k < n
    · have hlt1 : (k : Int) < (n : Int) := by omega
      obtain ⟨b, o, rfl, _, hbh, xa, xc, hc1, hrow, hc2⟩ := (HA.out.below HP.out.bel HH.out).item (k := k) (by rw [HN.out]; exact hlt)
      obtain ⟨xr, HXR⟩ : ∃ xr, Hid (xr = (at' l k).1) := ⟨_, rfl⟩
      obtain ⟨y, HY⟩ : ∃ y, Hid (y = (at' l k).2) := ⟨_, rfl⟩
      obtain ⟨xq, HXQ⟩ : ∃ xq, Hid (xr.length = xq) := ⟨_, rfl⟩
      change wr.cell? _ = some (.slice xa (at' l k).1.length xc) at hc1
      change wr.cell? _ = some (.int .i64 (at' l k).2) at hc2
      change RowIn lo hi wr xa (at' l k).1 at hrow
      rw [← HXR.out, HXQ.out] at hc1
      rw [← HY.out] at hc2
      rw [← HXR.out] at hrow
      have hxq : xq ≤ 1048576 := by rw [← HXQ.out, HXR.out]; exact HQL.out k hlt
      have hy : 0 ≤ y ∧ y ≤ 1000000 := by rw [HY.out]; exact HTL.out k hlt
      have hy0' := hy.1
      have hy1' := hy.2
      have HLK : Hid (k < l.length) := by show _ < _; rw [HN.out]; exact hlt
      obtain ⟨X, HX⟩ : ∃ X, Hid (X = wr.heap.size) := ⟨_, rfl⟩
      have HPX : Hid (PutAt lo hi B X w (wr.alloc (.cells #[.slice xa xq xc, .int .i64 y] 77)) (.slice (some ⟨b, o, none⟩) n cap) v L) := by rw [HX.out]; exact HP.out.over (below1' wr _)
      have HXB0 : Hid (Blk (wr.alloc (.cells #[.slice xa xq xc, .int .i64 y] 77)) X 2 (fun i => if i = 0 then .slice xa xq xc else .int .i64 y)) := blk_two wr X HX.out _ _ _
      have HRX0 : Hid (RowIn lo hi (wr.alloc (.cells #[.slice xa xq xc, .int .i64 y] 77)) xa xr) := hrow.below (below1' wr _) (by have := HP.out.old; have := HP.out.low; omega)
      clear hy hrow hbh HP
      rcases Bool.eq_false_or_eq_true dn with hd | hd
      · subst hd
        have hmk' : m ≤ k + 1 := by simpa using hmk
        clear hmk
        have hXX := HX.out
        subst hXX
        have HXB := HXB0
        have HRX := HRX0
        clear HXB0 HRX0
        obtain ⟨f8, R8, C8, hown8, hrows8⟩ := (HPX.out.over ((Below.refl wr.heap.size (wr.alloc (.cells #[.slice xa xq xc, .int .i64 y] 77))).alloc HPX.out.size (.cells #[.slice xa xq xc, .int .i64 y] 77))).laid
        rw [HLN.out] at hown8
        have HOWN8 : Hid (World.ownsRow ((wr.alloc (.cells #[.slice xa xq xc, .int .i64 y] 77)).alloc (.cells #[.slice xa xq xc, .int .i64 y] 77)) (B + 1 + 1 + 1) 77 2 v m ((List.range (m * 2)).map f8)) := hown8
        have HROWS8 : Hid (∀ i, i < (L).length → (f8 (i * 2) = .slice (R8 i) (at' (L) i).1.length (C8 i) ∧ f8 (i * 2 + 1) = .int .i64 (at' (L) i).2) ∧ RowP lo hi (B + 1 + 1 + 1) (wr.heap.size) ((wr.alloc (.cells #[.slice xa xq xc, .int .i64 y] 77)).alloc (.cells #[.slice xa xq xc, .int .i64 y] 77)) (R8 i) (at' (L) i).1 ∧ Off v (R8 i) (at' (L) i).1) := hrows8
        have c8 := HPX.out.out.cell (i := 0) (by omega)
        have f8' := HPX.out.out.frozen 0
        have x8 := HXB.out.cell (i := 0) (by omega)
        have y8 := HXB.out.cell (i := 1) (by omega)
        simp only [Nat.one_ne_zero, if_true, if_false] at x8 y8
        have HS8 : Hid (B + 1 + 1 + 1 ≤ (wr.alloc (.cells #[.slice xa xq xc, .int .i64 y] 77)).heap.size ∧ wr.heap.size ≤ (wr.alloc (.cells #[.slice xa xq xc, .int .i64 y] 77)).heap.size) := by have h1 := HPX.out.low; have h2 := HPX.out.size; exact ⟨by omega, h2⟩
        have hbw8 : Below (wr.alloc (.cells #[.slice xa xq xc, .int .i64 y] 77)).heap.size (wr.alloc (.cells #[.slice xa xq xc, .int .i64 y] 77)) ((wr.alloc (.cells #[.slice xa xq xc, .int .i64 y] 77)).alloc (.cells #[.slice xa xq xc, .int .i64 y] 77)) := below1' (wr.alloc (.cells #[.slice xa xq xc, .int .i64 y] 77)) _
        have c8a := cell_below c8 hbw8 (by have := HS8.out; omega)
        have f8a := frozen_below' f8' hbw8 (by have := HS8.out; omega)
        have HN8 : Hid (∀ i u, [Value.slice xa xq xc, Value.int .i64 y][i]? = some u → ((wr.alloc (.cells #[.slice xa xq xc, .int .i64 y] 77)).alloc (.cells #[.slice xa xq xc, .int .i64 y] 77)).cell? ((⟨wr.heap.size + 1, 0, none⟩ : Addr).add i) = some u) := by
          have h := news_two (wr.alloc (.cells #[.slice xa xq xc, .int .i64 y] 77)) (.slice xa xq xc) (.int .i64 y) 77
          simpa [Hid] using h
        clear hown8 hrows8 hbw8
        go_wp2_with (at_builtin; refine wpList_append_lies _ rfl (.tmp 60) (.tmp 62) 24 rfl (B + 1 + 1 + 1) 77 i1 _ 2 32 Try.underlying24 hj0 hy0 hy1 hy2 rfl (by decide) v (m) ((List.range ((m) * 2)).map f8) rfl HOWN8.out ⟨wr.heap.size + 1, 0, none⟩ 1 1 [.slice xa xq xc, .int .i64 y] rfl rfl HN8.out (by simp [Value.oneCell']) (by decide) (by unfold maxLen; omega) (by omega) (Nat.le_trans HS8.out.1 (below1' _ _).size) _ rfl ?_; intro g9 cap9 w9 hown9 hgrow9 hloc9 _; have hb9 := grown_below hgrow9 HOWN8.out (Nat.le_trans HS8.out.1 (below1' _ _).size); have d9 := cell_below c8a hb9 (by omega); have e9 := frozen_below' f8a hb9 (by omega))
        have HP9 : Hid (PutAt lo hi B w9.heap.size w (w9.setCell ⟨B + 1 + 1, 0, none⟩ (.slice (some ⟨g9, 0, none⟩) (m + 1) cap9)) (.slice (some ⟨b, o, none⟩) n cap) (.slice (some ⟨g9, 0, none⟩) (m + 1) cap9) ((L) ++ [(xr, y)])) := by
          refine PutAt.push (w8 := (wr.alloc (.cells #[.slice xa xq xc, .int .i64 y] 77)).alloc (.cells #[.slice xa xq xc, .int .i64 y] 77)) (M := wr.heap.size) (v := v) (x := (xr, y)) (ra := xa) (rc := xc) (f := f8) (R := R8) (C := C8) (HPX.out.over ((below1' (wr.alloc (.cells #[.slice xa xq xc, .int .i64 y] 77)) _).mono HS8.out.2)) HROWS8.out ?_ ?_ hgrow9 ?_ ?_
          · exact RowP.old (HRX.out.below (below1' (wr.alloc (.cells #[.slice xa xq xc, .int .i64 y] 77)) _) (by have := HS8.out; have := HH.out; omega))
          · exact off_old HOWN8.out HRX.out (by have := HH.out; omega)
          · rcases hloc9 with h | h
            · exact .inl (by rw [h]; rfl)
            · exact .inr (by rw [h]; rfl)
          · show World.ownsRow _ _ _ _ _ _ (_ ++ [.slice xa xr.length xc, _])
            rw [HLN.out, HXQ.out]; exact hown9
        clear hown9 hgrow9 hloc9 hb9
        go_roundw
        case rel =>
          refine ⟨k + 1, m + 1, true, (L) ++ [(xr, y)], .slice (some ⟨g9, 0, none⟩) (m + 1) cap9, rfl, by go_num, by omega, by simp; omega, by show _ = _; rw [List.length_append, HLN.out]; rfl, ?_, ?_⟩
          · show _ = _
            rw [HE.out, if_pos rfl, drop_at HLK.out, if_pos rfl, HXR.out, HY.out]
            simp
          · show PutAt lo hi B (w9.setCell _ _).heap.size w _ _ _ _
            have h := HP9.out
            simpa using h
        case measure => simp [intOf]; omega
      · subst hd
        have hmk' : m ≤ k := by simpa using hmk
        clear hmk
        obtain ⟨s1, HS1⟩ : ∃ s1 : Bool, Hid (s1 = decide (xr = r)) := ⟨_, rfl⟩
        have x0 := HXB0.out.cell (i := 0) (by omega)
        simp only [if_true] at x0
        go_wp2_with fail
        rw [← HX.out]
        refine (l03Same_any lo hi lo' hi' xa ra xq q xc rc xr r s1 _ HRX0.out (HR.out.below HPX.out.bel HH'.out) HXQ.out HQ.out hxq HS1.out).mono ?_
        rintro e w3 ⟨rfl, hb3⟩
        have HSX : Hid (X < (wr.alloc (.cells #[.slice xa xq xc, .int .i64 y] 77)).heap.size) := HXB0.out.lt
        have HP3 : Hid (PutAt lo hi B X w w3 (.slice (some ⟨b, o, none⟩) n cap) v L) := HPX.out.over (hb3.mono HPX.out.size)
        have HXB3 : Hid (Blk w3 X 2 (fun i => if i = 0 then .slice xa xq xc else .int .i64 y)) := HXB0.out.of_block (hb3.block _ HSX.out)
        have HRX3 : Hid (RowIn lo hi w3 xa xr) := HRX0.out.below hb3 (by have := HH.out; have := HPX.out.low; have := HPX.out.size; omega)
        have x3 := HXB3.out.cell (i := 0) (by omega)
        have y3 := HXB3.out.cell (i := 1) (by omega)
        have fx3 := HXB3.out.frozen 1
        simp only [Nat.one_ne_zero, if_true, if_false] at x3 y3
        clear HPX HXB0 HRX0 x0 hb3 c0 hc1 hc2 HSX
        rcases Bool.eq_false_or_eq_true s1 with hs | hs
        · subst hs
          have HSM : Hid ((at' l k).1 = r) := by have h := HS1.out; rw [HXR.out] at h; have h2 : (at' l k).1 = r := of_decide_eq_true h.symm; exact h2
          clear HS1
          by_cases hbig : y + t ≤ 1000000
          · have hbig1 : ¬ (1000000 : Int) < y + t := by omega
            have HXB : Hid (Blk (w3.setCell ⟨X, 1, none⟩ (.int .i64 (y + t))) X 2 (fun i => if i = 0 then .slice xa xq xc else .int .i64 (y + t))) := (HXB3.out.set 1 (by omega) _).congr (fun i hi => by rcases i with _ | _ | i <;> first | omega | simp)
            have HPS : Hid (PutAt lo hi B X w (w3.setCell ⟨X, 1, none⟩ (.int .i64 (y + t))) (.slice (some ⟨b, o, none⟩) n cap) v L) := HP3.out.over ((Below.refl _ _).setCell (by simp) _)
            have HRX : Hid (RowIn lo hi (w3.setCell ⟨X, 1, none⟩ (.int .i64 (y + t))) xa xr) := HRX3.out.below (B := X) ((Below.refl _ _).setCell (by simp) _) (by have := HH.out; have := HP3.out.low; omega)
            clear HXB3 HRX3 HP3
            obtain ⟨f8, R8, C8, hown8, hrows8⟩ := (HPS.out.over ((Below.refl X (w3.setCell ⟨X, 1, none⟩ (.int .i64 (y + t)))).alloc HPS.out.size (.cells #[.slice xa xq xc, .int .i64 (y + t)] 77))).laid
            rw [HLN.out] at hown8
            have HOWN8 : Hid (World.ownsRow ((w3.setCell ⟨X, 1, none⟩ (.int .i64 (y + t))).alloc (.cells #[.slice xa xq xc, .int .i64 (y + t)] 77)) (B + 1 + 1 + 1) 77 2 v m ((List.range (m * 2)).map f8)) := hown8
            have HROWS8 : Hid (∀ i, i < (L).length → (f8 (i * 2) = .slice (R8 i) (at' (L) i).1.length (C8 i) ∧ f8 (i * 2 + 1) = .int .i64 (at' (L) i).2) ∧ RowP lo hi (B + 1 + 1 + 1) (X) ((w3.setCell ⟨X, 1, none⟩ (.int .i64 (y + t))).alloc (.cells #[.slice xa xq xc, .int .i64 (y + t)] 77)) (R8 i) (at' (L) i).1 ∧ Off v (R8 i) (at' (L) i).1) := hrows8
            have c8 := HPS.out.out.cell (i := 0) (by omega)
            have f8' := HPS.out.out.frozen 0
            have x8 := HXB.out.cell (i := 0) (by omega)
            have y8 := HXB.out.cell (i := 1) (by omega)
            simp only [Nat.one_ne_zero, if_true, if_false] at x8 y8
            have HS8 : Hid (B + 1 + 1 + 1 ≤ (w3.setCell ⟨X, 1, none⟩ (.int .i64 (y + t))).heap.size ∧ X ≤ (w3.setCell ⟨X, 1, none⟩ (.int .i64 (y + t))).heap.size) := by have h1 := HPS.out.low; have h2 := HPS.out.size; exact ⟨by omega, h2⟩
            have hbw8 : Below (w3.setCell ⟨X, 1, none⟩ (.int .i64 (y + t))).heap.size (w3.setCell ⟨X, 1, none⟩ (.int .i64 (y + t))) ((w3.setCell ⟨X, 1, none⟩ (.int .i64 (y + t))).alloc (.cells #[.slice xa xq xc, .int .i64 (y + t)] 77)) := below1' (w3.setCell ⟨X, 1, none⟩ (.int .i64 (y + t))) _
            have c8a := cell_below c8 hbw8 (by have := HS8.out; omega)
            have f8a := frozen_below' f8' hbw8 (by have := HS8.out; omega)
            have HN8 : Hid (∀ i u, [Value.slice xa xq xc, Value.int .i64 (y + t)][i]? = some u → ((w3.setCell ⟨X, 1, none⟩ (.int .i64 (y + t))).alloc (.cells #[.slice xa xq xc, .int .i64 (y + t)] 77)).cell? ((⟨w3.heap.size, 0, none⟩ : Addr).add i) = some u) := by
              have h := news_two (w3.setCell ⟨X, 1, none⟩ (.int .i64 (y + t))) (.slice xa xq xc) (.int .i64 (y + t)) 77
              simpa [Hid] using h
            clear hown8 hrows8 hbw8
            go_wp2_with (at_builtin; refine wpList_append_lies _ rfl (.tmp 60) (.tmp 62) 24 rfl (B + 1 + 1 + 1) 77 i1 _ 2 32 Try.underlying24 hj0 hy0 hy1 hy2 rfl (by decide) v (m) ((List.range ((m) * 2)).map f8) rfl HOWN8.out ⟨w3.heap.size, 0, none⟩ 1 1 [.slice xa xq xc, .int .i64 (y + t)] rfl rfl HN8.out (by simp [Value.oneCell']) (by decide) (by unfold maxLen; omega) (by omega) (Nat.le_trans HS8.out.1 (below1' _ _).size) _ rfl ?_; intro g9 cap9 w9 hown9 hgrow9 hloc9 _; have hb9 := grown_below hgrow9 HOWN8.out (Nat.le_trans HS8.out.1 (below1' _ _).size); have d9 := cell_below c8a hb9 (by omega); have e9 := frozen_below' f8a hb9 (by omega))
            have HP9 : Hid (PutAt lo hi B w9.heap.size w (w9.setCell ⟨B + 1 + 1, 0, none⟩ (.slice (some ⟨g9, 0, none⟩) (m + 1) cap9)) (.slice (some ⟨b, o, none⟩) n cap) (.slice (some ⟨g9, 0, none⟩) (m + 1) cap9) ((L) ++ [(xr, (y + t))])) := by
              refine PutAt.push (w8 := (w3.setCell ⟨X, 1, none⟩ (.int .i64 (y + t))).alloc (.cells #[.slice xa xq xc, .int .i64 (y + t)] 77)) (M := X) (v := v) (x := (xr, (y + t))) (ra := xa) (rc := xc) (f := f8) (R := R8) (C := C8) (HPS.out.over ((below1' (w3.setCell ⟨X, 1, none⟩ (.int .i64 (y + t))) _).mono HS8.out.2)) HROWS8.out ?_ ?_ hgrow9 ?_ ?_
              · exact RowP.old (HRX.out.below (below1' (w3.setCell ⟨X, 1, none⟩ (.int .i64 (y + t))) _) (by have := HS8.out; have := HH.out; omega))
              · exact off_old HOWN8.out HRX.out (by have := HH.out; omega)
              · rcases hloc9 with h | h
                · exact .inl (by rw [h]; rfl)
                · exact .inr (by rw [h]; rfl)
              · show World.ownsRow _ _ _ _ _ _ (_ ++ [.slice xa xr.length xc, _])
                rw [HLN.out, HXQ.out]; exact hown9
            clear hown9 hgrow9 hloc9 hb9
            go_roundw
            case rel =>
              refine ⟨k + 1, m + 1, true, (L) ++ [(xr, (y + t))], .slice (some ⟨g9, 0, none⟩) (m + 1) cap9, rfl, by go_num, by omega, by simp; omega, by show _ = _; rw [List.length_append, HLN.out]; rfl, ?_, ?_⟩
              · show _ = _
                rw [HE.out, if_neg (by simp), putL_same HLK.out HSM.out, if_pos rfl, HXR.out, ← HY.out, show min (y + t) 1000000 = y + t by omega]
                simp
              · show PutAt lo hi B (w9.setCell _ _).heap.size w _ _ _ _
                have h := HP9.out
                simpa using h
            case measure => simp [intOf]; omega
          · have hbig1 : (1000000 : Int) < y + t := by omega
            have HXB : Hid (Blk ((w3.setCell ⟨X, 1, none⟩ (.int .i64 (y + t))).setCell ⟨X, 1, none⟩ (.int .i64 1000000)) X 2 (fun i => if i = 0 then .slice xa xq xc else .int .i64 1000000)) := ((HXB3.out.set 1 (by omega) _).set 1 (by omega) _).congr (fun i hi => by rcases i with _ | _ | i <;> first | omega | simp)
            have HPS : Hid (PutAt lo hi B X w ((w3.setCell ⟨X, 1, none⟩ (.int .i64 (y + t))).setCell ⟨X, 1, none⟩ (.int .i64 1000000)) (.slice (some ⟨b, o, none⟩) n cap) v L) := HP3.out.over (((Below.refl _ _).setCell (by simp) _).setCell (by simp) _)
            have HRX : Hid (RowIn lo hi ((w3.setCell ⟨X, 1, none⟩ (.int .i64 (y + t))).setCell ⟨X, 1, none⟩ (.int .i64 1000000)) xa xr) := HRX3.out.below (B := X) (((Below.refl _ _).setCell (by simp) _).setCell (by simp) _) (by have := HH.out; have := HP3.out.low; omega)
            clear HXB3 HRX3 HP3
            obtain ⟨f8, R8, C8, hown8, hrows8⟩ := (HPS.out.over ((Below.refl X ((w3.setCell ⟨X, 1, none⟩ (.int .i64 (y + t))).setCell ⟨X, 1, none⟩ (.int .i64 1000000))).alloc HPS.out.size (.cells #[.slice xa xq xc, .int .i64 1000000] 77))).laid
            rw [HLN.out] at hown8
            have HOWN8 : Hid (World.ownsRow (((w3.setCell ⟨X, 1, none⟩ (.int .i64 (y + t))).setCell ⟨X, 1, none⟩ (.int .i64 1000000)).alloc (.cells #[.slice xa xq xc, .int .i64 1000000] 77)) (B + 1 + 1 + 1) 77 2 v m ((List.range (m * 2)).map f8)) := hown8
            have HROWS8 : Hid (∀ i, i < (L).length → (f8 (i * 2) = .slice (R8 i) (at' (L) i).1.length (C8 i) ∧ f8 (i * 2 + 1) = .int .i64 (at' (L) i).2) ∧ RowP lo hi (B + 1 + 1 + 1) (X) (((w3.setCell ⟨X, 1, none⟩ (.int .i64 (y + t))).setCell ⟨X, 1, none⟩ (.int .i64 1000000)).alloc (.cells #[.slice xa xq xc, .int .i64 1000000] 77)) (R8 i) (at' (L) i).1 ∧ Off v (R8 i) (at' (L) i).1) := hrows8
            have c8 := HPS.out.out.cell (i := 0) (by omega)
            have f8' := HPS.out.out.frozen 0
            have x8 := HXB.out.cell (i := 0) (by omega)
            have y8 := HXB.out.cell (i := 1) (by omega)
            simp only [Nat.one_ne_zero, if_true, if_false] at x8 y8
            have HS8 : Hid (B + 1 + 1 + 1 ≤ ((w3.setCell ⟨X, 1, none⟩ (.int .i64 (y + t))).setCell ⟨X, 1, none⟩ (.int .i64 1000000)).heap.size ∧ X ≤ ((w3.setCell ⟨X, 1, none⟩ (.int .i64 (y + t))).setCell ⟨X, 1, none⟩ (.int .i64 1000000)).heap.size) := by have h1 := HPS.out.low; have h2 := HPS.out.size; exact ⟨by omega, h2⟩
            have hbw8 : Below ((w3.setCell ⟨X, 1, none⟩ (.int .i64 (y + t))).setCell ⟨X, 1, none⟩ (.int .i64 1000000)).heap.size ((w3.setCell ⟨X, 1, none⟩ (.int .i64 (y + t))).setCell ⟨X, 1, none⟩ (.int .i64 1000000)) (((w3.setCell ⟨X, 1, none⟩ (.int .i64 (y + t))).setCell ⟨X, 1, none⟩ (.int .i64 1000000)).alloc (.cells #[.slice xa xq xc, .int .i64 1000000] 77)) := below1' ((w3.setCell ⟨X, 1, none⟩ (.int .i64 (y + t))).setCell ⟨X, 1, none⟩ (.int .i64 1000000)) _
            have c8a := cell_below c8 hbw8 (by have := HS8.out; omega)
            have f8a := frozen_below' f8' hbw8 (by have := HS8.out; omega)
            have HN8 : Hid (∀ i u, [Value.slice xa xq xc, Value.int .i64 1000000][i]? = some u → (((w3.setCell ⟨X, 1, none⟩ (.int .i64 (y + t))).setCell ⟨X, 1, none⟩ (.int .i64 1000000)).alloc (.cells #[.slice xa xq xc, .int .i64 1000000] 77)).cell? ((⟨w3.heap.size, 0, none⟩ : Addr).add i) = some u) := by
              have h := news_two ((w3.setCell ⟨X, 1, none⟩ (.int .i64 (y + t))).setCell ⟨X, 1, none⟩ (.int .i64 1000000)) (.slice xa xq xc) (.int .i64 1000000) 77
              simpa [Hid] using h
            clear hown8 hrows8 hbw8
            go_wp2_with (at_builtin; refine wpList_append_lies _ rfl (.tmp 60) (.tmp 62) 24 rfl (B + 1 + 1 + 1) 77 i1 _ 2 32 Try.underlying24 hj0 hy0 hy1 hy2 rfl (by decide) v (m) ((List.range ((m) * 2)).map f8) rfl HOWN8.out ⟨w3.heap.size, 0, none⟩ 1 1 [.slice xa xq xc, .int .i64 1000000] rfl rfl HN8.out (by simp [Value.oneCell']) (by decide) (by unfold maxLen; omega) (by omega) (Nat.le_trans HS8.out.1 (below1' _ _).size) _ rfl ?_; intro g9 cap9 w9 hown9 hgrow9 hloc9 _; have hb9 := grown_below hgrow9 HOWN8.out (Nat.le_trans HS8.out.1 (below1' _ _).size); have d9 := cell_below c8a hb9 (by omega); have e9 := frozen_below' f8a hb9 (by omega))
            have HP9 : Hid (PutAt lo hi B w9.heap.size w (w9.setCell ⟨B + 1 + 1, 0, none⟩ (.slice (some ⟨g9, 0, none⟩) (m + 1) cap9)) (.slice (some ⟨b, o, none⟩) n cap) (.slice (some ⟨g9, 0, none⟩) (m + 1) cap9) ((L) ++ [(xr, 1000000)])) := by
              refine PutAt.push (w8 := ((w3.setCell ⟨X, 1, none⟩ (.int .i64 (y + t))).setCell ⟨X, 1, none⟩ (.int .i64 1000000)).alloc (.cells #[.slice xa xq xc, .int .i64 1000000] 77)) (M := X) (v := v) (x := (xr, 1000000)) (ra := xa) (rc := xc) (f := f8) (R := R8) (C := C8) (HPS.out.over ((below1' ((w3.setCell ⟨X, 1, none⟩ (.int .i64 (y + t))).setCell ⟨X, 1, none⟩ (.int .i64 1000000)) _).mono HS8.out.2)) HROWS8.out ?_ ?_ hgrow9 ?_ ?_
              · exact RowP.old (HRX.out.below (below1' ((w3.setCell ⟨X, 1, none⟩ (.int .i64 (y + t))).setCell ⟨X, 1, none⟩ (.int .i64 1000000)) _) (by have := HS8.out; have := HH.out; omega))
              · exact off_old HOWN8.out HRX.out (by have := HH.out; omega)
              · rcases hloc9 with h | h
                · exact .inl (by rw [h]; rfl)
                · exact .inr (by rw [h]; rfl)
              · show World.ownsRow _ _ _ _ _ _ (_ ++ [.slice xa xr.length xc, _])
                rw [HLN.out, HXQ.out]; exact hown9
            clear hown9 hgrow9 hloc9 hb9
            go_roundw
            case rel =>
              refine ⟨k + 1, m + 1, true, (L) ++ [(xr, 1000000)], .slice (some ⟨g9, 0, none⟩) (m + 1) cap9, rfl, by go_num, by omega, by simp; omega, by show _ = _; rw [List.length_append, HLN.out]; rfl, ?_, ?_⟩
              · show _ = _
                rw [HE.out, if_neg (by simp), putL_same HLK.out HSM.out, if_pos rfl, HXR.out, ← HY.out, show min (y + t) 1000000 = 1000000 by omega]
                simp
              · show PutAt lo hi B (w9.setCell _ _).heap.size w _ _ _ _
                have h := HP9.out
                simpa using h
            case measure => simp [intOf]; omega
        · subst hs
          have HSN : Hid ((at' l k).1 ≠ r) := by have h := HS1.out; rw [HXR.out] at h; have h2 : (at' l k).1 ≠ r := of_decide_eq_false h.symm; exact h2
          obtain ⟨s2, HS2⟩ : ∃ s2 : Bool, Hid (s2 = rowLt r xr) := ⟨_, rfl⟩
          clear HS1
          go_wp2_with fail
          refine (specLess_any lo' hi' lo hi ra xa q xq rc xc r xr s2 _ (HR.out.below HP3.out.bel HH'.out) HRX3.out HQ.out HXQ.out hm' hxq HS2.out).mono ?_
          rintro e w4 ⟨rfl, hb4⟩
          have HSX : Hid (X < w3.heap.size) := HXB3.out.lt
          have HP4 : Hid (PutAt lo hi B X w w4 (.slice (some ⟨b, o, none⟩) n cap) v L) := HP3.out.over (hb4.mono HP3.out.size)
          have HXB4 : Hid (Blk w4 X 2 (fun i => if i = 0 then .slice xa xq xc else .int .i64 y)) := HXB3.out.of_block (hb4.block _ HSX.out)
          have HRX4 : Hid (RowIn lo hi w4 xa xr) := HRX3.out.below hb4 (by have := HH.out; have := HP3.out.low; have := HP3.out.size; omega)
          clear HP3 HXB3 HRX3 x3 y3 fx3 hb4 HSX
          rcases Bool.eq_false_or_eq_true s2 with hs | hs
          · subst hs
            have HLS : Hid (rowLt r (at' l k).1 = true) := by have h := HS2.out; rw [HXR.out] at h; exact h.symm
            clear HS2
            obtain ⟨f7, R7, C7, hown7, hrows7⟩ := HP4.out.laid
            rw [HLN.out] at hown7
            have HOWN7 : Hid (World.ownsRow w4 (B + 1 + 1 + 1) 77 2 v m ((List.range (m * 2)).map f7)) := hown7
            have HROWS7 : Hid (∀ i, i < L.length → (f7 (i * 2) = .slice (R7 i) (at' L i).1.length (C7 i) ∧ f7 (i * 2 + 1) = .int .i64 (at' L i).2) ∧ RowP lo hi (B + 1 + 1 + 1) X w4 (R7 i) (at' L i).1 ∧ Off v (R7 i) (at' L i).1) := hrows7
            have c7 := HP4.out.out.cell (i := 0) (by omega)
            have f7' := HP4.out.out.frozen 0
            have HS7 : Hid (B + 1 + 1 + 1 ≤ w4.heap.size ∧ B + 1 + 1 < w4.heap.size ∧ X ≤ w4.heap.size) := by have h1 := HP4.out.low; have h2 := HP4.out.size; exact ⟨by omega, by omega, h2⟩
            have HNB7 : Hid (Below w4.heap.size w4 (w4.drew.alloc (.cells #[] 3))) := (Below.refl _ _).drew.alloc (Nat.le_refl _) _
            have c7n := cell_below c7 HNB7.out HS7.out.2.1
            have c7m : (w4.alloc (.cells #[] 3)).drew.cell? ⟨B + 1 + 1, 0, none⟩ = some v := c7n
            have c7k : (w4.alloc (.cells #[] 3)).cell? ⟨B + 1 + 1, 0, none⟩ = some v := c7n
            have HRR7 : Hid (RowIn lo' hi' w4 ra r) := HR.out.below HP4.out.bel HH'.out
            have HRH7 : Hid (hi' ≤ w4.heap.size) := by have := HH'.out; have := HS7.out.1; show _ ≤ _; omega
            clear hown7 hrows7
            go_wp2_with fail
            refine wp_region_held_drew (S := fun _ => True) (by kernel_rfl) trivial (fun hHeld => ?_)
            refine wpAnyH_take (i := 0) (oi := _) (v := ?_) rfl (by kernel_rfl) (by kernel_rfl) (by kernel_rfl) (fun _ _ _ h => h) (Or.inl ⟨by rfl, ?_⟩) (by assumption) ?_
            rotate_left
            · intro w hSw; (try dsimp only at hSw); go_simp; try with_reducible rfl
            simp only [Act.put]
            refine wpAnyH_take (i := 3) (oi := _) (v := ?_) rfl (by kernel_rfl) (by kernel_rfl) (by kernel_rfl) (fun _ _ _ h => h) (Or.inl ⟨by rfl, ?_⟩) (by assumption) ?_
            rotate_left
            · intro w hSw; (try dsimp only at hSw); go_simp; try with_reducible rfl
            simp only [Act.put]
            refine wpAnyH_take (i := 5) (oi := _) (v := ?_) rfl (by kernel_rfl) (by kernel_rfl) (by kernel_rfl) (fun _ _ _ h => h) (Or.inl ⟨by rfl, ?_⟩) (by assumption) ?_
            rotate_left
            · intro w hSw; (try dsimp only at hSw); go_simp; try with_reducible rfl
            simp only [Act.put]
            refine wpAnyH_ready (rs := [1, 2]) (by kernel_rfl) (by simp) ?_
            refine AllReadyH.cons rfl (fun K hK => ?_) ?_
            · go_simp
              refine hK.out _ _ hHeld (fun hHeld => ?_)
              clear hK K
              refine wpAnyH_ready (rs := [2]) (by kernel_rfl) (by simp) ?_
              refine AllReadyH.cons rfl (fun K hK => ?_) ?_
              · go_simp
                refine hK.out _ _ (trivial) (fun hHeld => ?_)
                clear hK K
                refine wpAnyH_ready (rs := [4]) (by kernel_rfl) (by simp) ?_
                refine AllReadyH.cons rfl (fun K hK => ?_) ?_
                · refine step_append_row _ rfl (.tmp 51) (.tmp 52) 39 rfl w4.heap.size 3 i0 (.int .i64 0) 1 8 Try.underlying39 hi0 hz0 hz1 hz2 rfl (by decide) _ 0 [] rfl (World.ownsRow_made w4.drew #[] 0 (Nat.le_refl _) (Nat.zero_le _) rfl) ra q rc (rowCells r) rfl (rowIn_none HRR7.out HQ.out) (by rw [rowCells_len, HQ.out]) (rowCells_at (HRR7.out.below HNB7.out HRH7.out)) (rowCells_one _) (by unfold maxLen; omega) (by omega) (by simp) ?_; intro v1 w12 hown1 hgrow1; obtain ⟨⟨a1, cap1, rfl, hr1⟩, hb12⟩ := row_made HQ.out hown1 hgrow1; have d7 := cell_below c7 hb12 HS7.out.2.1; have d7' := fun o => cell_below c7 (below_more hb12 o) HS7.out.2.1; clear hown1 hgrow1
                  refine hK.out _ _ (trivial) (fun hHeld => ?_)
                  clear hK K
                  refine wpAnyH_take (i := 6) (oi := _) (v := ?_) rfl (by kernel_rfl) (by kernel_rfl) (by kernel_rfl) (fun _ _ _ h => h) (Or.inl ⟨by rfl, ?_⟩) (by assumption) ?_
                  rotate_left
                  · intro w hSw; (try dsimp only at hSw); go_simp; try with_reducible rfl
                  simp only [Act.put]
                  refine wpAnyH_ready (rs := [7]) (by kernel_rfl) (by simp) ?_
                  refine AllReadyH.cons rfl (fun K hK => ?_) ?_
                  · go_simp
                    refine hK.out _ _ (trivial) (fun hHeld => ?_)
                    clear hK K
                    refine wpAnyH_ready (rs := [8]) (by kernel_rfl) (by simp) ?_
                    refine AllReadyH.cons rfl (fun K hK => ?_) ?_
                    · refine step_append_lies _ rfl (.tmp 50) (.tmp 56) 24 rfl (B + 1 + 1 + 1) 77 i1 _ 2 32 Try.underlying24 hj0 hy0 hy1 hy2 rfl (by decide) v m ((List.range (m * 2)).map f7) rfl (owns_below HOWN7.out (below_more hb12 _)) ⟨w12.heap.size, 0, none⟩ 1 1 [.slice a1 q cap1, .int .i64 t] rfl rfl (news_two w12 _ _ _) (by simp [Value.oneCell']) (by decide) (by unfold maxLen; omega) (by omega) (Nat.le_trans HS7.out.1 (below_more hb12 _).size) _ rfl ?_; intro g13 cap13 w13 hown13 hgrow13 hloc13 _; have hb13 := grown_below hgrow13 HOWN7.out (Nat.le_trans HS7.out.1 (below_more hb12 _).size); have d13 := cell_below (d7' _) hb13 (by omega); have g13' := frozen_below f7' (below_more hb12 _) hb13 HS7.out.2.1 (by omega)
                      refine hK.out _ _ (trivial) (fun hHeld => ?_)
                      clear hK K
                      refine wpAnyH_take (i := 9) (oi := _) (v := ?_) rfl (by kernel_rfl) (by kernel_rfl) (by kernel_rfl) (fun _ _ _ h => h) (Or.inl ⟨by rfl, ?_⟩) (by assumption) ?_
                      rotate_left
                      · intro w hSw; (try dsimp only at hSw); go_simp; try with_reducible rfl
                      simp only [Act.put]
                      refine wpAnyH_ready (rs := [10]) (by kernel_rfl) (by simp) ?_
                      refine AllReadyH.cons rfl (fun K hK => ?_) ?_
                      · go_simp
                        refine hK.out _ _ (trivial) (fun hHeld => ?_)
                        clear hK K
                        refine wpAnyH_done (by kernel_rfl) ?_ _
                        have HPN : Hid (PutAt lo hi B w13.heap.size w (w13.setCell ⟨B + 1 + 1, 0, none⟩ (.slice (some ⟨g13, 0, none⟩) (m + 1) cap13)) (.slice (some ⟨b, o, none⟩) n cap) (.slice (some ⟨g13, 0, none⟩) (m + 1) cap13) (L ++ [(r, t)])) := by
                          have hrow : RowIn w4.heap.size w12.heap.size w12 a1 r := hr1.toIn
                          refine PutAt.push (w8 := w12.alloc (.cells #[.slice a1 q cap1, .int .i64 t] 77)) (M := X) (v := v) (x := (r, t)) (ra := a1) (rc := cap1) (f := f7) (R := R7) (C := C7) (HP4.out.over ((below_more hb12 _).mono HS7.out.2.2)) (fun i hi => ?_) ?_ ?_ hgrow13 ?_ ?_
                          · obtain ⟨p1, p2, p3⟩ := HROWS7.out i hi
                            have hold := HP4.out.old
                            have hs7 := HS7.out
                            exact ⟨p1, p2.upto (fun k hk => (below_more hb12 _).block k (by omega)), p3⟩
                          · exact RowP.new ((hrow.below (below1' w12 _) (Nat.le_refl _)).wide HS7.out.1 (by simp))
                          · exact off_new hrow HS7.out.2.2 HP4.out.vlt
                          · rcases hloc13 with h | h
                            · exact .inl (by rw [h]; rfl)
                            · exact .inr (by rw [h]; rfl)
                          · show World.ownsRow _ _ _ _ _ _ (_ ++ [.slice a1 r.length cap1, _])
                            rw [HLN.out, HQ.out]; exact hown13
                        have HXS13 : Hid (X ≠ B + 1 + 1) := by have := HP4.out.low; show _ ≠ _; omega
                        have HB413 : Hid (Below (B + 1 + 1 + 1) w4 w13) := ((below_more hb12 _).mono HS7.out.1).trans hb13
                        have HXK : Hid (w13.heap[X]? = w4.heap[X]?) := by
                          have h1 := (below_more hb12 (.cells #[.slice a1 q cap1, .int .i64 t] 77)).block X (HXB4.out.lt)
                          have h2 := hgrow13.block X (by have := HXB4.out.lt; have := (below_more hb12 (.cells #[.slice a1 q cap1, .int .i64 t] 77)).size; omega) (by intro e; have := HP4.out.vlt X e.symm; omega)
                          exact h2.trans h1
                        have HXB : Hid (Blk (w13.setCell ⟨B + 1 + 1, 0, none⟩ (.slice (some ⟨g13, 0, none⟩) (m + 1) cap13)) X 2 (fun i => if i = 0 then .slice xa xq xc else .int .i64 y)) := (HXB4.out.of_block HXK.out).of_block (Below.heap_setCell _ _ _ _ (by have := HXS13.out; simp; omega))
                        have HRX : Hid (RowIn lo hi (w13.setCell ⟨B + 1 + 1, 0, none⟩ (.slice (some ⟨g13, 0, none⟩) (m + 1) cap13)) xa xr) := HRX4.out.below (B := B) ((HB413.out.mono (by omega)).setCell (by simp; omega) _) HH.out
                        have HLN' : Hid ((L ++ [(r, t)]).length = m + 1) := by show _ = _; rw [List.length_append, HLN.out]; rfl
                        have HPN' : Hid (PutAt lo hi B w13.heap.size w (w13.setCell ⟨B + 1 + 1, 0, none⟩ (.slice (some ⟨g13, 0, none⟩) (m + 1) cap13)) (.slice (some ⟨b, o, none⟩) n cap) (.slice (some ⟨g13, 0, none⟩) (m + 1) cap13) (L ++ [(r, t)])) := HPN
                        clear hown13 hgrow13 hloc13 hb13 d13 g13' d7 d7' hr1 hb12 hHeld c7n c7m c7k HP4 HXB4 HRX4 HPN c7 f7'
                        obtain ⟨f8, R8, C8, hown8, hrows8⟩ := (HPN'.out.over ((Below.refl w13.heap.size (w13.setCell ⟨B + 1 + 1, 0, none⟩ (.slice (some ⟨g13, 0, none⟩) (m + 1) cap13))).alloc HPN'.out.size (.cells #[.slice xa xq xc, .int .i64 y] 77))).laid
                        rw [HLN'.out] at hown8
                        have HOWN8 : Hid (World.ownsRow ((w13.setCell ⟨B + 1 + 1, 0, none⟩ (.slice (some ⟨g13, 0, none⟩) (m + 1) cap13)).alloc (.cells #[.slice xa xq xc, .int .i64 y] 77)) (B + 1 + 1 + 1) 77 2 (.slice (some ⟨g13, 0, none⟩) (m + 1) cap13) (m + 1) ((List.range ((m + 1) * 2)).map f8)) := hown8
                        have HROWS8 : Hid (∀ i, i < (L ++ [(r, t)]).length → (f8 (i * 2) = .slice (R8 i) (at' (L ++ [(r, t)]) i).1.length (C8 i) ∧ f8 (i * 2 + 1) = .int .i64 (at' (L ++ [(r, t)]) i).2) ∧ RowP lo hi (B + 1 + 1 + 1) (w13.heap.size) ((w13.setCell ⟨B + 1 + 1, 0, none⟩ (.slice (some ⟨g13, 0, none⟩) (m + 1) cap13)).alloc (.cells #[.slice xa xq xc, .int .i64 y] 77)) (R8 i) (at' (L ++ [(r, t)]) i).1 ∧ Off (.slice (some ⟨g13, 0, none⟩) (m + 1) cap13) (R8 i) (at' (L ++ [(r, t)]) i).1) := hrows8
                        have c8 := HPN'.out.out.cell (i := 0) (by omega)
                        have f8' := HPN'.out.out.frozen 0
                        have x8 := HXB.out.cell (i := 0) (by omega)
                        have y8 := HXB.out.cell (i := 1) (by omega)
                        simp only [Nat.one_ne_zero, if_true, if_false] at x8 y8
                        have HS8 : Hid (B + 1 + 1 + 1 ≤ (w13.setCell ⟨B + 1 + 1, 0, none⟩ (.slice (some ⟨g13, 0, none⟩) (m + 1) cap13)).heap.size ∧ w13.heap.size ≤ (w13.setCell ⟨B + 1 + 1, 0, none⟩ (.slice (some ⟨g13, 0, none⟩) (m + 1) cap13)).heap.size) := by have h1 := HPN'.out.low; have h2 := HPN'.out.size; exact ⟨by omega, h2⟩
                        have hbw8 : Below (w13.setCell ⟨B + 1 + 1, 0, none⟩ (.slice (some ⟨g13, 0, none⟩) (m + 1) cap13)).heap.size (w13.setCell ⟨B + 1 + 1, 0, none⟩ (.slice (some ⟨g13, 0, none⟩) (m + 1) cap13)) ((w13.setCell ⟨B + 1 + 1, 0, none⟩ (.slice (some ⟨g13, 0, none⟩) (m + 1) cap13)).alloc (.cells #[.slice xa xq xc, .int .i64 y] 77)) := below1' (w13.setCell ⟨B + 1 + 1, 0, none⟩ (.slice (some ⟨g13, 0, none⟩) (m + 1) cap13)) _
                        have c8a := cell_below c8 hbw8 (by have := HS8.out; omega)
                        have f8a := frozen_below' f8' hbw8 (by have := HS8.out; omega)
                        have HN8 : Hid (∀ i u, [Value.slice xa xq xc, Value.int .i64 y][i]? = some u → ((w13.setCell ⟨B + 1 + 1, 0, none⟩ (.slice (some ⟨g13, 0, none⟩) (m + 1) cap13)).alloc (.cells #[.slice xa xq xc, .int .i64 y] 77)).cell? ((⟨w13.heap.size, 0, none⟩ : Addr).add i) = some u) := by
                          have h := news_two (w13.setCell ⟨B + 1 + 1, 0, none⟩ (.slice (some ⟨g13, 0, none⟩) (m + 1) cap13)) (.slice xa xq xc) (.int .i64 y) 77
                          simpa [Hid] using h
                        clear hown8 hrows8 hbw8
                        go_wp2_with (at_builtin; refine wpList_append_lies _ rfl (.tmp 60) (.tmp 62) 24 rfl (B + 1 + 1 + 1) 77 i1 _ 2 32 Try.underlying24 hj0 hy0 hy1 hy2 rfl (by decide) (.slice (some ⟨g13, 0, none⟩) (m + 1) cap13) ((m + 1)) ((List.range (((m + 1)) * 2)).map f8) rfl HOWN8.out ⟨w13.heap.size, 0, none⟩ 1 1 [.slice xa xq xc, .int .i64 y] rfl rfl HN8.out (by simp [Value.oneCell']) (by decide) (by unfold maxLen; omega) (by omega) (Nat.le_trans HS8.out.1 (below1' _ _).size) _ rfl ?_; intro g9 cap9 w9 hown9 hgrow9 hloc9 _; have hb9 := grown_below hgrow9 HOWN8.out (Nat.le_trans HS8.out.1 (below1' _ _).size); have d9 := cell_below c8a hb9 (by omega); have e9 := frozen_below' f8a hb9 (by omega))
                        have HP9 : Hid (PutAt lo hi B w9.heap.size w (w9.setCell ⟨B + 1 + 1, 0, none⟩ (.slice (some ⟨g9, 0, none⟩) ((m + 1) + 1) cap9)) (.slice (some ⟨b, o, none⟩) n cap) (.slice (some ⟨g9, 0, none⟩) ((m + 1) + 1) cap9) ((L ++ [(r, t)]) ++ [(xr, y)])) := by
                          refine PutAt.push (w8 := (w13.setCell ⟨B + 1 + 1, 0, none⟩ (.slice (some ⟨g13, 0, none⟩) (m + 1) cap13)).alloc (.cells #[.slice xa xq xc, .int .i64 y] 77)) (M := w13.heap.size) (v := (.slice (some ⟨g13, 0, none⟩) (m + 1) cap13)) (x := (xr, y)) (ra := xa) (rc := xc) (f := f8) (R := R8) (C := C8) (HPN'.out.over ((below1' (w13.setCell ⟨B + 1 + 1, 0, none⟩ (.slice (some ⟨g13, 0, none⟩) (m + 1) cap13)) _).mono HS8.out.2)) HROWS8.out ?_ ?_ hgrow9 ?_ ?_
                          · exact RowP.old (HRX.out.below (below1' (w13.setCell ⟨B + 1 + 1, 0, none⟩ (.slice (some ⟨g13, 0, none⟩) (m + 1) cap13)) _) (by have := HS8.out; have := HH.out; omega))
                          · exact off_old HOWN8.out HRX.out (by have := HH.out; omega)
                          · rcases hloc9 with h | h
                            · exact .inl (by rw [h]; rfl)
                            · exact .inr (by rw [h]; rfl)
                          · show World.ownsRow _ _ _ _ _ _ (_ ++ [.slice xa xr.length xc, _])
                            rw [HLN'.out, HXQ.out]; exact hown9
                        clear hown9 hgrow9 hloc9 hb9
                        go_roundw
                        case rel =>
                          refine ⟨k + 1, (m + 1) + 1, true, (L ++ [(r, t)]) ++ [(xr, y)], .slice (some ⟨g9, 0, none⟩) ((m + 1) + 1) cap9, rfl, by go_num, by omega, by simp; omega, by show _ = _; rw [List.length_append, HLN'.out]; rfl, ?_, ?_⟩
                          · show _ = _
                            rw [HE.out, if_neg (by simp), putL_less HLK.out HSN.out HLS.out, if_pos rfl, HXR.out, HY.out]
                            simp
                          · show PutAt lo hi B (w9.setCell _ _).heap.size w _ _ _ _
                            have h := HP9.out
                            simpa using h
                        case measure => simp [intOf]; omega
                      exact AllReadyH.nil
                    exact AllReadyH.nil
                  exact AllReadyH.nil
                exact AllReadyH.nil
              exact AllReadyH.nil
            refine AllReadyH.cons rfl (fun K hK => ?_) ?_
            · go_simp
              refine hK.out _ _ (trivial) (fun hHeld => ?_)
              clear hK K
              refine wpAnyH_ready (rs := [1, 4]) (by kernel_rfl) (by simp) ?_
              refine AllReadyH.cons rfl (fun K hK => ?_) ?_
              · go_simp
                refine hK.out _ _ hHeld (fun hHeld => ?_)
                clear hK K
                refine wpAnyH_ready (rs := [4]) (by kernel_rfl) (by simp) ?_
                refine AllReadyH.cons rfl (fun K hK => ?_) ?_
                · refine step_append_row _ rfl (.tmp 51) (.tmp 52) 39 rfl w4.heap.size 3 i0 (.int .i64 0) 1 8 Try.underlying39 hi0 hz0 hz1 hz2 rfl (by decide) _ 0 [] rfl (World.ownsRow_made w4.drew #[] 0 (Nat.le_refl _) (Nat.zero_le _) rfl) ra q rc (rowCells r) rfl (rowIn_none HRR7.out HQ.out) (by rw [rowCells_len, HQ.out]) (rowCells_at (HRR7.out.below HNB7.out HRH7.out)) (rowCells_one _) (by unfold maxLen; omega) (by omega) (by simp) ?_; intro v1 w12 hown1 hgrow1; obtain ⟨⟨a1, cap1, rfl, hr1⟩, hb12⟩ := row_made HQ.out hown1 hgrow1; have d7 := cell_below c7 hb12 HS7.out.2.1; have d7' := fun o => cell_below c7 (below_more hb12 o) HS7.out.2.1; clear hown1 hgrow1
                  refine hK.out _ _ (trivial) (fun hHeld => ?_)
                  clear hK K
                  refine wpAnyH_take (i := 6) (oi := _) (v := ?_) rfl (by kernel_rfl) (by kernel_rfl) (by kernel_rfl) (fun _ _ _ h => h) (Or.inl ⟨by rfl, ?_⟩) (by assumption) ?_
                  rotate_left
                  · intro w hSw; (try dsimp only at hSw); go_simp; try with_reducible rfl
                  simp only [Act.put]
                  refine wpAnyH_ready (rs := [7]) (by kernel_rfl) (by simp) ?_
                  refine AllReadyH.cons rfl (fun K hK => ?_) ?_
                  · go_simp
                    refine hK.out _ _ (trivial) (fun hHeld => ?_)
                    clear hK K
                    refine wpAnyH_ready (rs := [8]) (by kernel_rfl) (by simp) ?_
                    refine AllReadyH.cons rfl (fun K hK => ?_) ?_
                    · refine step_append_lies _ rfl (.tmp 50) (.tmp 56) 24 rfl (B + 1 + 1 + 1) 77 i1 _ 2 32 Try.underlying24 hj0 hy0 hy1 hy2 rfl (by decide) v m ((List.range (m * 2)).map f7) rfl (owns_below HOWN7.out (below_more hb12 _)) ⟨w12.heap.size, 0, none⟩ 1 1 [.slice a1 q cap1, .int .i64 t] rfl rfl (news_two w12 _ _ _) (by simp [Value.oneCell']) (by decide) (by unfold maxLen; omega) (by omega) (Nat.le_trans HS7.out.1 (below_more hb12 _).size) _ rfl ?_; intro g13 cap13 w13 hown13 hgrow13 hloc13 _; have hb13 := grown_below hgrow13 HOWN7.out (Nat.le_trans HS7.out.1 (below_more hb12 _).size); have d13 := cell_below (d7' _) hb13 (by omega); have g13' := frozen_below f7' (below_more hb12 _) hb13 HS7.out.2.1 (by omega)
                      refine hK.out _ _ (trivial) (fun hHeld => ?_)
                      clear hK K
                      refine wpAnyH_take (i := 9) (oi := _) (v := ?_) rfl (by kernel_rfl) (by kernel_rfl) (by kernel_rfl) (fun _ _ _ h => h) (Or.inl ⟨by rfl, ?_⟩) (by assumption) ?_
                      rotate_left
                      · intro w hSw; (try dsimp only at hSw); go_simp; try with_reducible rfl
                      simp only [Act.put]
                      refine wpAnyH_ready (rs := [10]) (by kernel_rfl) (by simp) ?_
                      refine AllReadyH.cons rfl (fun K hK => ?_) ?_
                      · go_simp
                        refine hK.out _ _ (trivial) (fun hHeld => ?_)
                        clear hK K
                        refine wpAnyH_done (by kernel_rfl) ?_ _
                        have HPN : Hid (PutAt lo hi B w13.heap.size w (w13.setCell ⟨B + 1 + 1, 0, none⟩ (.slice (some ⟨g13, 0, none⟩) (m + 1) cap13)) (.slice (some ⟨b, o, none⟩) n cap) (.slice (some ⟨g13, 0, none⟩) (m + 1) cap13) (L ++ [(r, t)])) := by
                          have hrow : RowIn w4.heap.size w12.heap.size w12 a1 r := hr1.toIn
                          refine PutAt.push (w8 := w12.alloc (.cells #[.slice a1 q cap1, .int .i64 t] 77)) (M := X) (v := v) (x := (r, t)) (ra := a1) (rc := cap1) (f := f7) (R := R7) (C := C7) (HP4.out.over ((below_more hb12 _).mono HS7.out.2.2)) (fun i hi => ?_) ?_ ?_ hgrow13 ?_ ?_
                          · obtain ⟨p1, p2, p3⟩ := HROWS7.out i hi
                            have hold := HP4.out.old
                            have hs7 := HS7.out
                            exact ⟨p1, p2.upto (fun k hk => (below_more hb12 _).block k (by omega)), p3⟩
                          · exact RowP.new ((hrow.below (below1' w12 _) (Nat.le_refl _)).wide HS7.out.1 (by simp))
                          · exact off_new hrow HS7.out.2.2 HP4.out.vlt
                          · rcases hloc13 with h | h
                            · exact .inl (by rw [h]; rfl)
                            · exact .inr (by rw [h]; rfl)
                          · show World.ownsRow _ _ _ _ _ _ (_ ++ [.slice a1 r.length cap1, _])
                            rw [HLN.out, HQ.out]; exact hown13
                        have HXS13 : Hid (X ≠ B + 1 + 1) := by have := HP4.out.low; show _ ≠ _; omega
                        have HB413 : Hid (Below (B + 1 + 1 + 1) w4 w13) := ((below_more hb12 _).mono HS7.out.1).trans hb13
                        have HXK : Hid (w13.heap[X]? = w4.heap[X]?) := by
                          have h1 := (below_more hb12 (.cells #[.slice a1 q cap1, .int .i64 t] 77)).block X (HXB4.out.lt)
                          have h2 := hgrow13.block X (by have := HXB4.out.lt; have := (below_more hb12 (.cells #[.slice a1 q cap1, .int .i64 t] 77)).size; omega) (by intro e; have := HP4.out.vlt X e.symm; omega)
                          exact h2.trans h1
                        have HXB : Hid (Blk (w13.setCell ⟨B + 1 + 1, 0, none⟩ (.slice (some ⟨g13, 0, none⟩) (m + 1) cap13)) X 2 (fun i => if i = 0 then .slice xa xq xc else .int .i64 y)) := (HXB4.out.of_block HXK.out).of_block (Below.heap_setCell _ _ _ _ (by have := HXS13.out; simp; omega))
                        have HRX : Hid (RowIn lo hi (w13.setCell ⟨B + 1 + 1, 0, none⟩ (.slice (some ⟨g13, 0, none⟩) (m + 1) cap13)) xa xr) := HRX4.out.below (B := B) ((HB413.out.mono (by omega)).setCell (by simp; omega) _) HH.out
                        have HLN' : Hid ((L ++ [(r, t)]).length = m + 1) := by show _ = _; rw [List.length_append, HLN.out]; rfl
                        have HPN' : Hid (PutAt lo hi B w13.heap.size w (w13.setCell ⟨B + 1 + 1, 0, none⟩ (.slice (some ⟨g13, 0, none⟩) (m + 1) cap13)) (.slice (some ⟨b, o, none⟩) n cap) (.slice (some ⟨g13, 0, none⟩) (m + 1) cap13) (L ++ [(r, t)])) := HPN
                        clear hown13 hgrow13 hloc13 hb13 d13 g13' d7 d7' hr1 hb12 hHeld c7n c7m c7k HP4 HXB4 HRX4 HPN c7 f7'
                        obtain ⟨f8, R8, C8, hown8, hrows8⟩ := (HPN'.out.over ((Below.refl w13.heap.size (w13.setCell ⟨B + 1 + 1, 0, none⟩ (.slice (some ⟨g13, 0, none⟩) (m + 1) cap13))).alloc HPN'.out.size (.cells #[.slice xa xq xc, .int .i64 y] 77))).laid
                        rw [HLN'.out] at hown8
                        have HOWN8 : Hid (World.ownsRow ((w13.setCell ⟨B + 1 + 1, 0, none⟩ (.slice (some ⟨g13, 0, none⟩) (m + 1) cap13)).alloc (.cells #[.slice xa xq xc, .int .i64 y] 77)) (B + 1 + 1 + 1) 77 2 (.slice (some ⟨g13, 0, none⟩) (m + 1) cap13) (m + 1) ((List.range ((m + 1) * 2)).map f8)) := hown8
                        have HROWS8 : Hid (∀ i, i < (L ++ [(r, t)]).length → (f8 (i * 2) = .slice (R8 i) (at' (L ++ [(r, t)]) i).1.length (C8 i) ∧ f8 (i * 2 + 1) = .int .i64 (at' (L ++ [(r, t)]) i).2) ∧ RowP lo hi (B + 1 + 1 + 1) (w13.heap.size) ((w13.setCell ⟨B + 1 + 1, 0, none⟩ (.slice (some ⟨g13, 0, none⟩) (m + 1) cap13)).alloc (.cells #[.slice xa xq xc, .int .i64 y] 77)) (R8 i) (at' (L ++ [(r, t)]) i).1 ∧ Off (.slice (some ⟨g13, 0, none⟩) (m + 1) cap13) (R8 i) (at' (L ++ [(r, t)]) i).1) := hrows8
                        have c8 := HPN'.out.out.cell (i := 0) (by omega)
                        have f8' := HPN'.out.out.frozen 0
                        have x8 := HXB.out.cell (i := 0) (by omega)
                        have y8 := HXB.out.cell (i := 1) (by omega)
                        simp only [Nat.one_ne_zero, if_true, if_false] at x8 y8
                        have HS8 : Hid (B + 1 + 1 + 1 ≤ (w13.setCell ⟨B + 1 + 1, 0, none⟩ (.slice (some ⟨g13, 0, none⟩) (m + 1) cap13)).heap.size ∧ w13.heap.size ≤ (w13.setCell ⟨B + 1 + 1, 0, none⟩ (.slice (some ⟨g13, 0, none⟩) (m + 1) cap13)).heap.size) := by have h1 := HPN'.out.low; have h2 := HPN'.out.size; exact ⟨by omega, h2⟩
                        have hbw8 : Below (w13.setCell ⟨B + 1 + 1, 0, none⟩ (.slice (some ⟨g13, 0, none⟩) (m + 1) cap13)).heap.size (w13.setCell ⟨B + 1 + 1, 0, none⟩ (.slice (some ⟨g13, 0, none⟩) (m + 1) cap13)) ((w13.setCell ⟨B + 1 + 1, 0, none⟩ (.slice (some ⟨g13, 0, none⟩) (m + 1) cap13)).alloc (.cells #[.slice xa xq xc, .int .i64 y] 77)) := below1' (w13.setCell ⟨B + 1 + 1, 0, none⟩ (.slice (some ⟨g13, 0, none⟩) (m + 1) cap13)) _
                        have c8a := cell_below c8 hbw8 (by have := HS8.out; omega)
                        have f8a := frozen_below' f8' hbw8 (by have := HS8.out; omega)
                        have HN8 : Hid (∀ i u, [Value.slice xa xq xc, Value.int .i64 y][i]? = some u → ((w13.setCell ⟨B + 1 + 1, 0, none⟩ (.slice (some ⟨g13, 0, none⟩) (m + 1) cap13)).alloc (.cells #[.slice xa xq xc, .int .i64 y] 77)).cell? ((⟨w13.heap.size, 0, none⟩ : Addr).add i) = some u) := by
                          have h := news_two (w13.setCell ⟨B + 1 + 1, 0, none⟩ (.slice (some ⟨g13, 0, none⟩) (m + 1) cap13)) (.slice xa xq xc) (.int .i64 y) 77
                          simpa [Hid] using h
                        clear hown8 hrows8 hbw8
                        go_wp2_with (at_builtin; refine wpList_append_lies _ rfl (.tmp 60) (.tmp 62) 24 rfl (B + 1 + 1 + 1) 77 i1 _ 2 32 Try.underlying24 hj0 hy0 hy1 hy2 rfl (by decide) (.slice (some ⟨g13, 0, none⟩) (m + 1) cap13) ((m + 1)) ((List.range (((m + 1)) * 2)).map f8) rfl HOWN8.out ⟨w13.heap.size, 0, none⟩ 1 1 [.slice xa xq xc, .int .i64 y] rfl rfl HN8.out (by simp [Value.oneCell']) (by decide) (by unfold maxLen; omega) (by omega) (Nat.le_trans HS8.out.1 (below1' _ _).size) _ rfl ?_; intro g9 cap9 w9 hown9 hgrow9 hloc9 _; have hb9 := grown_below hgrow9 HOWN8.out (Nat.le_trans HS8.out.1 (below1' _ _).size); have d9 := cell_below c8a hb9 (by omega); have e9 := frozen_below' f8a hb9 (by omega))
                        have HP9 : Hid (PutAt lo hi B w9.heap.size w (w9.setCell ⟨B + 1 + 1, 0, none⟩ (.slice (some ⟨g9, 0, none⟩) ((m + 1) + 1) cap9)) (.slice (some ⟨b, o, none⟩) n cap) (.slice (some ⟨g9, 0, none⟩) ((m + 1) + 1) cap9) ((L ++ [(r, t)]) ++ [(xr, y)])) := by
                          refine PutAt.push (w8 := (w13.setCell ⟨B + 1 + 1, 0, none⟩ (.slice (some ⟨g13, 0, none⟩) (m + 1) cap13)).alloc (.cells #[.slice xa xq xc, .int .i64 y] 77)) (M := w13.heap.size) (v := (.slice (some ⟨g13, 0, none⟩) (m + 1) cap13)) (x := (xr, y)) (ra := xa) (rc := xc) (f := f8) (R := R8) (C := C8) (HPN'.out.over ((below1' (w13.setCell ⟨B + 1 + 1, 0, none⟩ (.slice (some ⟨g13, 0, none⟩) (m + 1) cap13)) _).mono HS8.out.2)) HROWS8.out ?_ ?_ hgrow9 ?_ ?_
                          · exact RowP.old (HRX.out.below (below1' (w13.setCell ⟨B + 1 + 1, 0, none⟩ (.slice (some ⟨g13, 0, none⟩) (m + 1) cap13)) _) (by have := HS8.out; have := HH.out; omega))
                          · exact off_old HOWN8.out HRX.out (by have := HH.out; omega)
                          · rcases hloc9 with h | h
                            · exact .inl (by rw [h]; rfl)
                            · exact .inr (by rw [h]; rfl)
                          · show World.ownsRow _ _ _ _ _ _ (_ ++ [.slice xa xr.length xc, _])
                            rw [HLN'.out, HXQ.out]; exact hown9
                        clear hown9 hgrow9 hloc9 hb9
                        go_roundw
                        case rel =>
                          refine ⟨k + 1, (m + 1) + 1, true, (L ++ [(r, t)]) ++ [(xr, y)], .slice (some ⟨g9, 0, none⟩) ((m + 1) + 1) cap9, rfl, by go_num, by omega, by simp; omega, by show _ = _; rw [List.length_append, HLN'.out]; rfl, ?_, ?_⟩
                          · show _ = _
                            rw [HE.out, if_neg (by simp), putL_less HLK.out HSN.out HLS.out, if_pos rfl, HXR.out, HY.out]
                            simp
                          · show PutAt lo hi B (w9.setCell _ _).heap.size w _ _ _ _
                            have h := HP9.out
                            simpa using h
                        case measure => simp [intOf]; omega
                      exact AllReadyH.nil
                    exact AllReadyH.nil
                  exact AllReadyH.nil
                exact AllReadyH.nil
              refine AllReadyH.cons rfl (fun K hK => ?_) ?_
              · refine step_append_row _ rfl (.tmp 51) (.tmp 52) 39 rfl w4.heap.size 3 i0 (.int .i64 0) 1 8 Try.underlying39 hi0 hz0 hz1 hz2 rfl (by decide) _ 0 [] rfl (World.ownsRow_made w4.drew #[] 0 (Nat.le_refl _) (Nat.zero_le _) rfl) ra q rc (rowCells r) rfl (rowIn_none HRR7.out HQ.out) (by rw [rowCells_len, HQ.out]) (rowCells_at (HRR7.out.below HNB7.out HRH7.out)) (rowCells_one _) (by unfold maxLen; omega) (by omega) (by simp) ?_; intro v1 w12 hown1 hgrow1; obtain ⟨⟨a1, cap1, rfl, hr1⟩, hb12⟩ := row_made HQ.out hown1 hgrow1; have d7 := cell_below c7 hb12 HS7.out.2.1; have d7' := fun o => cell_below c7 (below_more hb12 o) HS7.out.2.1; clear hown1 hgrow1
                refine hK.out _ _ (trivial) (fun hHeld => ?_)
                clear hK K
                refine wpAnyH_take (i := 6) (oi := _) (v := ?_) rfl (by kernel_rfl) (by kernel_rfl) (by kernel_rfl) (fun _ _ _ h => h) (Or.inl ⟨by rfl, ?_⟩) (by assumption) ?_
                rotate_left
                · intro w hSw; (try dsimp only at hSw); go_simp; try with_reducible rfl
                simp only [Act.put]
                refine wpAnyH_ready (rs := [1, 7]) (by kernel_rfl) (by simp) ?_
                refine AllReadyH.cons rfl (fun K hK => ?_) ?_
                · go_simp
                  refine hK.out _ _ hHeld (fun hHeld => ?_)
                  clear hK K
                  refine wpAnyH_ready (rs := [7]) (by kernel_rfl) (by simp) ?_
                  refine AllReadyH.cons rfl (fun K hK => ?_) ?_
                  · go_simp
                    refine hK.out _ _ (trivial) (fun hHeld => ?_)
                    clear hK K
                    refine wpAnyH_ready (rs := [8]) (by kernel_rfl) (by simp) ?_
                    refine AllReadyH.cons rfl (fun K hK => ?_) ?_
                    · refine step_append_lies _ rfl (.tmp 50) (.tmp 56) 24 rfl (B + 1 + 1 + 1) 77 i1 _ 2 32 Try.underlying24 hj0 hy0 hy1 hy2 rfl (by decide) v m ((List.range (m * 2)).map f7) rfl (owns_below HOWN7.out (below_more hb12 _)) ⟨w12.heap.size, 0, none⟩ 1 1 [.slice a1 q cap1, .int .i64 t] rfl rfl (news_two w12 _ _ _) (by simp [Value.oneCell']) (by decide) (by unfold maxLen; omega) (by omega) (Nat.le_trans HS7.out.1 (below_more hb12 _).size) _ rfl ?_; intro g13 cap13 w13 hown13 hgrow13 hloc13 _; have hb13 := grown_below hgrow13 HOWN7.out (Nat.le_trans HS7.out.1 (below_more hb12 _).size); have d13 := cell_below (d7' _) hb13 (by omega); have g13' := frozen_below f7' (below_more hb12 _) hb13 HS7.out.2.1 (by omega)
                      refine hK.out _ _ (trivial) (fun hHeld => ?_)
                      clear hK K
                      refine wpAnyH_take (i := 9) (oi := _) (v := ?_) rfl (by kernel_rfl) (by kernel_rfl) (by kernel_rfl) (fun _ _ _ h => h) (Or.inl ⟨by rfl, ?_⟩) (by assumption) ?_
                      rotate_left
                      · intro w hSw; (try dsimp only at hSw); go_simp; try with_reducible rfl
                      simp only [Act.put]
                      refine wpAnyH_ready (rs := [10]) (by kernel_rfl) (by simp) ?_
                      refine AllReadyH.cons rfl (fun K hK => ?_) ?_
                      · go_simp
                        refine hK.out _ _ (trivial) (fun hHeld => ?_)
                        clear hK K
                        refine wpAnyH_done (by kernel_rfl) ?_ _
                        have HPN : Hid (PutAt lo hi B w13.heap.size w (w13.setCell ⟨B + 1 + 1, 0, none⟩ (.slice (some ⟨g13, 0, none⟩) (m + 1) cap13)) (.slice (some ⟨b, o, none⟩) n cap) (.slice (some ⟨g13, 0, none⟩) (m + 1) cap13) (L ++ [(r, t)])) := by
                          have hrow : RowIn w4.heap.size w12.heap.size w12 a1 r := hr1.toIn
                          refine PutAt.push (w8 := w12.alloc (.cells #[.slice a1 q cap1, .int .i64 t] 77)) (M := X) (v := v) (x := (r, t)) (ra := a1) (rc := cap1) (f := f7) (R := R7) (C := C7) (HP4.out.over ((below_more hb12 _).mono HS7.out.2.2)) (fun i hi => ?_) ?_ ?_ hgrow13 ?_ ?_
                          · obtain ⟨p1, p2, p3⟩ := HROWS7.out i hi
                            have hold := HP4.out.old
                            have hs7 := HS7.out
                            exact ⟨p1, p2.upto (fun k hk => (below_more hb12 _).block k (by omega)), p3⟩
                          · exact RowP.new ((hrow.below (below1' w12 _) (Nat.le_refl _)).wide HS7.out.1 (by simp))
                          · exact off_new hrow HS7.out.2.2 HP4.out.vlt
                          · rcases hloc13 with h | h
                            · exact .inl (by rw [h]; rfl)
                            · exact .inr (by rw [h]; rfl)
                          · show World.ownsRow _ _ _ _ _ _ (_ ++ [.slice a1 r.length cap1, _])
                            rw [HLN.out, HQ.out]; exact hown13
                        have HXS13 : Hid (X ≠ B + 1 + 1) := by have := HP4.out.low; show _ ≠ _; omega
                        have HB413 : Hid (Below (B + 1 + 1 + 1) w4 w13) := ((below_more hb12 _).mono HS7.out.1).trans hb13
                        have HXK : Hid (w13.heap[X]? = w4.heap[X]?) := by
                          have h1 := (below_more hb12 (.cells #[.slice a1 q cap1, .int .i64 t] 77)).block X (HXB4.out.lt)
                          have h2 := hgrow13.block X (by have := HXB4.out.lt; have := (below_more hb12 (.cells #[.slice a1 q cap1, .int .i64 t] 77)).size; omega) (by intro e; have := HP4.out.vlt X e.symm; omega)
                          exact h2.trans h1
                        have HXB : Hid (Blk (w13.setCell ⟨B + 1 + 1, 0, none⟩ (.slice (some ⟨g13, 0, none⟩) (m + 1) cap13)) X 2 (fun i => if i = 0 then .slice xa xq xc else .int .i64 y)) := (HXB4.out.of_block HXK.out).of_block (Below.heap_setCell _ _ _ _ (by have := HXS13.out; simp; omega))
                        have HRX : Hid (RowIn lo hi (w13.setCell ⟨B + 1 + 1, 0, none⟩ (.slice (some ⟨g13, 0, none⟩) (m + 1) cap13)) xa xr) := HRX4.out.below (B := B) ((HB413.out.mono (by omega)).setCell (by simp; omega) _) HH.out
                        have HLN' : Hid ((L ++ [(r, t)]).length = m + 1) := by show _ = _; rw [List.length_append, HLN.out]; rfl
                        have HPN' : Hid (PutAt lo hi B w13.heap.size w (w13.setCell ⟨B + 1 + 1, 0, none⟩ (.slice (some ⟨g13, 0, none⟩) (m + 1) cap13)) (.slice (some ⟨b, o, none⟩) n cap) (.slice (some ⟨g13, 0, none⟩) (m + 1) cap13) (L ++ [(r, t)])) := HPN
                        clear hown13 hgrow13 hloc13 hb13 d13 g13' d7 d7' hr1 hb12 hHeld c7n c7m c7k HP4 HXB4 HRX4 HPN c7 f7'
                        obtain ⟨f8, R8, C8, hown8, hrows8⟩ := (HPN'.out.over ((Below.refl w13.heap.size (w13.setCell ⟨B + 1 + 1, 0, none⟩ (.slice (some ⟨g13, 0, none⟩) (m + 1) cap13))).alloc HPN'.out.size (.cells #[.slice xa xq xc, .int .i64 y] 77))).laid
                        rw [HLN'.out] at hown8
                        have HOWN8 : Hid (World.ownsRow ((w13.setCell ⟨B + 1 + 1, 0, none⟩ (.slice (some ⟨g13, 0, none⟩) (m + 1) cap13)).alloc (.cells #[.slice xa xq xc, .int .i64 y] 77)) (B + 1 + 1 + 1) 77 2 (.slice (some ⟨g13, 0, none⟩) (m + 1) cap13) (m + 1) ((List.range ((m + 1) * 2)).map f8)) := hown8
                        have HROWS8 : Hid (∀ i, i < (L ++ [(r, t)]).length → (f8 (i * 2) = .slice (R8 i) (at' (L ++ [(r, t)]) i).1.length (C8 i) ∧ f8 (i * 2 + 1) = .int .i64 (at' (L ++ [(r, t)]) i).2) ∧ RowP lo hi (B + 1 + 1 + 1) (w13.heap.size) ((w13.setCell ⟨B + 1 + 1, 0, none⟩ (.slice (some ⟨g13, 0, none⟩) (m + 1) cap13)).alloc (.cells #[.slice xa xq xc, .int .i64 y] 77)) (R8 i) (at' (L ++ [(r, t)]) i).1 ∧ Off (.slice (some ⟨g13, 0, none⟩) (m + 1) cap13) (R8 i) (at' (L ++ [(r, t)]) i).1) := hrows8
                        have c8 := HPN'.out.out.cell (i := 0) (by omega)
                        have f8' := HPN'.out.out.frozen 0
                        have x8 := HXB.out.cell (i := 0) (by omega)
                        have y8 := HXB.out.cell (i := 1) (by omega)
                        simp only [Nat.one_ne_zero, if_true, if_false] at x8 y8
                        have HS8 : Hid (B + 1 + 1 + 1 ≤ (w13.setCell ⟨B + 1 + 1, 0, none⟩ (.slice (some ⟨g13, 0, none⟩) (m + 1) cap13)).heap.size ∧ w13.heap.size ≤ (w13.setCell ⟨B + 1 + 1, 0, none⟩ (.slice (some ⟨g13, 0, none⟩) (m + 1) cap13)).heap.size) := by have h1 := HPN'.out.low; have h2 := HPN'.out.size; exact ⟨by omega, h2⟩
                        have hbw8 : Below (w13.setCell ⟨B + 1 + 1, 0, none⟩ (.slice (some ⟨g13, 0, none⟩) (m + 1) cap13)).heap.size (w13.setCell ⟨B + 1 + 1, 0, none⟩ (.slice (some ⟨g13, 0, none⟩) (m + 1) cap13)) ((w13.setCell ⟨B + 1 + 1, 0, none⟩ (.slice (some ⟨g13, 0, none⟩) (m + 1) cap13)).alloc (.cells #[.slice xa xq xc, .int .i64 y] 77)) := below1' (w13.setCell ⟨B + 1 + 1, 0, none⟩ (.slice (some ⟨g13, 0, none⟩) (m + 1) cap13)) _
                        have c8a := cell_below c8 hbw8 (by have := HS8.out; omega)
                        have f8a := frozen_below' f8' hbw8 (by have := HS8.out; omega)
                        have HN8 : Hid (∀ i u, [Value.slice xa xq xc, Value.int .i64 y][i]? = some u → ((w13.setCell ⟨B + 1 + 1, 0, none⟩ (.slice (some ⟨g13, 0, none⟩) (m + 1) cap13)).alloc (.cells #[.slice xa xq xc, .int .i64 y] 77)).cell? ((⟨w13.heap.size, 0, none⟩ : Addr).add i) = some u) := by
                          have h := news_two (w13.setCell ⟨B + 1 + 1, 0, none⟩ (.slice (some ⟨g13, 0, none⟩) (m + 1) cap13)) (.slice xa xq xc) (.int .i64 y) 77
                          simpa [Hid] using h
                        clear hown8 hrows8 hbw8
                        go_wp2_with (at_builtin; refine wpList_append_lies _ rfl (.tmp 60) (.tmp 62) 24 rfl (B + 1 + 1 + 1) 77 i1 _ 2 32 Try.underlying24 hj0 hy0 hy1 hy2 rfl (by decide) (.slice (some ⟨g13, 0, none⟩) (m + 1) cap13) ((m + 1)) ((List.range (((m + 1)) * 2)).map f8) rfl HOWN8.out ⟨w13.heap.size, 0, none⟩ 1 1 [.slice xa xq xc, .int .i64 y] rfl rfl HN8.out (by simp [Value.oneCell']) (by decide) (by unfold maxLen; omega) (by omega) (Nat.le_trans HS8.out.1 (below1' _ _).size) _ rfl ?_; intro g9 cap9 w9 hown9 hgrow9 hloc9 _; have hb9 := grown_below hgrow9 HOWN8.out (Nat.le_trans HS8.out.1 (below1' _ _).size); have d9 := cell_below c8a hb9 (by omega); have e9 := frozen_below' f8a hb9 (by omega))
                        have HP9 : Hid (PutAt lo hi B w9.heap.size w (w9.setCell ⟨B + 1 + 1, 0, none⟩ (.slice (some ⟨g9, 0, none⟩) ((m + 1) + 1) cap9)) (.slice (some ⟨b, o, none⟩) n cap) (.slice (some ⟨g9, 0, none⟩) ((m + 1) + 1) cap9) ((L ++ [(r, t)]) ++ [(xr, y)])) := by
                          refine PutAt.push (w8 := (w13.setCell ⟨B + 1 + 1, 0, none⟩ (.slice (some ⟨g13, 0, none⟩) (m + 1) cap13)).alloc (.cells #[.slice xa xq xc, .int .i64 y] 77)) (M := w13.heap.size) (v := (.slice (some ⟨g13, 0, none⟩) (m + 1) cap13)) (x := (xr, y)) (ra := xa) (rc := xc) (f := f8) (R := R8) (C := C8) (HPN'.out.over ((below1' (w13.setCell ⟨B + 1 + 1, 0, none⟩ (.slice (some ⟨g13, 0, none⟩) (m + 1) cap13)) _).mono HS8.out.2)) HROWS8.out ?_ ?_ hgrow9 ?_ ?_
                          · exact RowP.old (HRX.out.below (below1' (w13.setCell ⟨B + 1 + 1, 0, none⟩ (.slice (some ⟨g13, 0, none⟩) (m + 1) cap13)) _) (by have := HS8.out; have := HH.out; omega))
                          · exact off_old HOWN8.out HRX.out (by have := HH.out; omega)
                          · rcases hloc9 with h | h
                            · exact .inl (by rw [h]; rfl)
                            · exact .inr (by rw [h]; rfl)
                          · show World.ownsRow _ _ _ _ _ _ (_ ++ [.slice xa xr.length xc, _])
                            rw [HLN'.out, HXQ.out]; exact hown9
                        clear hown9 hgrow9 hloc9 hb9
                        go_roundw
                        case rel =>
                          refine ⟨k + 1, (m + 1) + 1, true, (L ++ [(r, t)]) ++ [(xr, y)], .slice (some ⟨g9, 0, none⟩) ((m + 1) + 1) cap9, rfl, by go_num, by omega, by simp; omega, by show _ = _; rw [List.length_append, HLN'.out]; rfl, ?_, ?_⟩
                          · show _ = _
                            rw [HE.out, if_neg (by simp), putL_less HLK.out HSN.out HLS.out, if_pos rfl, HXR.out, HY.out]
                            simp
                          · show PutAt lo hi B (w9.setCell _ _).heap.size w _ _ _ _
                            have h := HP9.out
                            simpa using h
                        case measure => simp [intOf]; omega
                      exact AllReadyH.nil
                    exact AllReadyH.nil
                  exact AllReadyH.nil
                refine AllReadyH.cons rfl (fun K hK => ?_) ?_
                · go_simp
                  refine hK.out _ _ (trivial) (fun hHeld => ?_)
                  clear hK K
                  refine wpAnyH_ready (rs := [1]) (by kernel_rfl) (by simp) ?_
                  refine AllReadyH.cons rfl (fun K hK => ?_) ?_
                  · go_simp
                    refine hK.out _ _ hHeld (fun hHeld => ?_)
                    clear hK K
                    refine wpAnyH_ready (rs := [8]) (by kernel_rfl) (by simp) ?_
                    refine AllReadyH.cons rfl (fun K hK => ?_) ?_
                    · refine step_append_lies _ rfl (.tmp 50) (.tmp 56) 24 rfl (B + 1 + 1 + 1) 77 i1 _ 2 32 Try.underlying24 hj0 hy0 hy1 hy2 rfl (by decide) v m ((List.range (m * 2)).map f7) rfl (owns_below HOWN7.out (below_more hb12 _)) ⟨w12.heap.size, 0, none⟩ 1 1 [.slice a1 q cap1, .int .i64 t] rfl rfl (news_two w12 _ _ _) (by simp [Value.oneCell']) (by decide) (by unfold maxLen; omega) (by omega) (Nat.le_trans HS7.out.1 (below_more hb12 _).size) _ rfl ?_; intro g13 cap13 w13 hown13 hgrow13 hloc13 _; have hb13 := grown_below hgrow13 HOWN7.out (Nat.le_trans HS7.out.1 (below_more hb12 _).size); have d13 := cell_below (d7' _) hb13 (by omega); have g13' := frozen_below f7' (below_more hb12 _) hb13 HS7.out.2.1 (by omega)
                      refine hK.out _ _ (trivial) (fun hHeld => ?_)
                      clear hK K
                      refine wpAnyH_take (i := 9) (oi := _) (v := ?_) rfl (by kernel_rfl) (by kernel_rfl) (by kernel_rfl) (fun _ _ _ h => h) (Or.inl ⟨by rfl, ?_⟩) (by assumption) ?_
                      rotate_left
                      · intro w hSw; (try dsimp only at hSw); go_simp; try with_reducible rfl
                      simp only [Act.put]
                      refine wpAnyH_ready (rs := [10]) (by kernel_rfl) (by simp) ?_
                      refine AllReadyH.cons rfl (fun K hK => ?_) ?_
                      · go_simp
                        refine hK.out _ _ (trivial) (fun hHeld => ?_)
                        clear hK K
                        refine wpAnyH_done (by kernel_rfl) ?_ _
                        have HPN : Hid (PutAt lo hi B w13.heap.size w (w13.setCell ⟨B + 1 + 1, 0, none⟩ (.slice (some ⟨g13, 0, none⟩) (m + 1) cap13)) (.slice (some ⟨b, o, none⟩) n cap) (.slice (some ⟨g13, 0, none⟩) (m + 1) cap13) (L ++ [(r, t)])) := by
                          have hrow : RowIn w4.heap.size w12.heap.size w12 a1 r := hr1.toIn
                          refine PutAt.push (w8 := w12.alloc (.cells #[.slice a1 q cap1, .int .i64 t] 77)) (M := X) (v := v) (x := (r, t)) (ra := a1) (rc := cap1) (f := f7) (R := R7) (C := C7) (HP4.out.over ((below_more hb12 _).mono HS7.out.2.2)) (fun i hi => ?_) ?_ ?_ hgrow13 ?_ ?_
                          · obtain ⟨p1, p2, p3⟩ := HROWS7.out i hi
                            have hold := HP4.out.old
                            have hs7 := HS7.out
                            exact ⟨p1, p2.upto (fun k hk => (below_more hb12 _).block k (by omega)), p3⟩
                          · exact RowP.new ((hrow.below (below1' w12 _) (Nat.le_refl _)).wide HS7.out.1 (by simp))
                          · exact off_new hrow HS7.out.2.2 HP4.out.vlt
                          · rcases hloc13 with h | h
                            · exact .inl (by rw [h]; rfl)
                            · exact .inr (by rw [h]; rfl)
                          · show World.ownsRow _ _ _ _ _ _ (_ ++ [.slice a1 r.length cap1, _])
                            rw [HLN.out, HQ.out]; exact hown13
                        have HXS13 : Hid (X ≠ B + 1 + 1) := by have := HP4.out.low; show _ ≠ _; omega
                        have HB413 : Hid (Below (B + 1 + 1 + 1) w4 w13) := ((below_more hb12 _).mono HS7.out.1).trans hb13
                        have HXK : Hid (w13.heap[X]? = w4.heap[X]?) := by
                          have h1 := (below_more hb12 (.cells #[.slice a1 q cap1, .int .i64 t] 77)).block X (HXB4.out.lt)
                          have h2 := hgrow13.block X (by have := HXB4.out.lt; have := (below_more hb12 (.cells #[.slice a1 q cap1, .int .i64 t] 77)).size; omega) (by intro e; have := HP4.out.vlt X e.symm; omega)
                          exact h2.trans h1
                        have HXB : Hid (Blk (w13.setCell ⟨B + 1 + 1, 0, none⟩ (.slice (some ⟨g13, 0, none⟩) (m + 1) cap13)) X 2 (fun i => if i = 0 then .slice xa xq xc else .int .i64 y)) := (HXB4.out.of_block HXK.out).of_block (Below.heap_setCell _ _ _ _ (by have := HXS13.out; simp; omega))
                        have HRX : Hid (RowIn lo hi (w13.setCell ⟨B + 1 + 1, 0, none⟩ (.slice (some ⟨g13, 0, none⟩) (m + 1) cap13)) xa xr) := HRX4.out.below (B := B) ((HB413.out.mono (by omega)).setCell (by simp; omega) _) HH.out
                        have HLN' : Hid ((L ++ [(r, t)]).length = m + 1) := by show _ = _; rw [List.length_append, HLN.out]; rfl
                        have HPN' : Hid (PutAt lo hi B w13.heap.size w (w13.setCell ⟨B + 1 + 1, 0, none⟩ (.slice (some ⟨g13, 0, none⟩) (m + 1) cap13)) (.slice (some ⟨b, o, none⟩) n cap) (.slice (some ⟨g13, 0, none⟩) (m + 1) cap13) (L ++ [(r, t)])) := HPN
                        clear hown13 hgrow13 hloc13 hb13 d13 g13' d7 d7' hr1 hb12 hHeld c7n c7m c7k HP4 HXB4 HRX4 HPN c7 f7'
                        obtain ⟨f8, R8, C8, hown8, hrows8⟩ := (HPN'.out.over ((Below.refl w13.heap.size (w13.setCell ⟨B + 1 + 1, 0, none⟩ (.slice (some ⟨g13, 0, none⟩) (m + 1) cap13))).alloc HPN'.out.size (.cells #[.slice xa xq xc, .int .i64 y] 77))).laid
                        rw [HLN'.out] at hown8
                        have HOWN8 : Hid (World.ownsRow ((w13.setCell ⟨B + 1 + 1, 0, none⟩ (.slice (some ⟨g13, 0, none⟩) (m + 1) cap13)).alloc (.cells #[.slice xa xq xc, .int .i64 y] 77)) (B + 1 + 1 + 1) 77 2 (.slice (some ⟨g13, 0, none⟩) (m + 1) cap13) (m + 1) ((List.range ((m + 1) * 2)).map f8)) := hown8
                        have HROWS8 : Hid (∀ i, i < (L ++ [(r, t)]).length → (f8 (i * 2) = .slice (R8 i) (at' (L ++ [(r, t)]) i).1.length (C8 i) ∧ f8 (i * 2 + 1) = .int .i64 (at' (L ++ [(r, t)]) i).2) ∧ RowP lo hi (B + 1 + 1 + 1) (w13.heap.size) ((w13.setCell ⟨B + 1 + 1, 0, none⟩ (.slice (some ⟨g13, 0, none⟩) (m + 1) cap13)).alloc (.cells #[.slice xa xq xc, .int .i64 y] 77)) (R8 i) (at' (L ++ [(r, t)]) i).1 ∧ Off (.slice (some ⟨g13, 0, none⟩) (m + 1) cap13) (R8 i) (at' (L ++ [(r, t)]) i).1) := hrows8
                        have c8 := HPN'.out.out.cell (i := 0) (by omega)
                        have f8' := HPN'.out.out.frozen 0
                        have x8 := HXB.out.cell (i := 0) (by omega)
                        have y8 := HXB.out.cell (i := 1) (by omega)
                        simp only [Nat.one_ne_zero, if_true, if_false] at x8 y8
                        have HS8 : Hid (B + 1 + 1 + 1 ≤ (w13.setCell ⟨B + 1 + 1, 0, none⟩ (.slice (some ⟨g13, 0, none⟩) (m + 1) cap13)).heap.size ∧ w13.heap.size ≤ (w13.setCell ⟨B + 1 + 1, 0, none⟩ (.slice (some ⟨g13, 0, none⟩) (m + 1) cap13)).heap.size) := by have h1 := HPN'.out.low; have h2 := HPN'.out.size; exact ⟨by omega, h2⟩
                        have hbw8 : Below (w13.setCell ⟨B + 1 + 1, 0, none⟩ (.slice (some ⟨g13, 0, none⟩) (m + 1) cap13)).heap.size (w13.setCell ⟨B + 1 + 1, 0, none⟩ (.slice (some ⟨g13, 0, none⟩) (m + 1) cap13)) ((w13.setCell ⟨B + 1 + 1, 0, none⟩ (.slice (some ⟨g13, 0, none⟩) (m + 1) cap13)).alloc (.cells #[.slice xa xq xc, .int .i64 y] 77)) := below1' (w13.setCell ⟨B + 1 + 1, 0, none⟩ (.slice (some ⟨g13, 0, none⟩) (m + 1) cap13)) _
                        have c8a := cell_below c8 hbw8 (by have := HS8.out; omega)
                        have f8a := frozen_below' f8' hbw8 (by have := HS8.out; omega)
                        have HN8 : Hid (∀ i u, [Value.slice xa xq xc, Value.int .i64 y][i]? = some u → ((w13.setCell ⟨B + 1 + 1, 0, none⟩ (.slice (some ⟨g13, 0, none⟩) (m + 1) cap13)).alloc (.cells #[.slice xa xq xc, .int .i64 y] 77)).cell? ((⟨w13.heap.size, 0, none⟩ : Addr).add i) = some u) := by
                          have h := news_two (w13.setCell ⟨B + 1 + 1, 0, none⟩ (.slice (some ⟨g13, 0, none⟩) (m + 1) cap13)) (.slice xa xq xc) (.int .i64 y) 77
                          simpa [Hid] using h
                        clear hown8 hrows8 hbw8
                        go_wp2_with (at_builtin; refine wpList_append_lies _ rfl (.tmp 60) (.tmp 62) 24 rfl (B + 1 + 1 + 1) 77 i1 _ 2 32 Try.underlying24 hj0 hy0 hy1 hy2 rfl (by decide) (.slice (some ⟨g13, 0, none⟩) (m + 1) cap13) ((m + 1)) ((List.range (((m + 1)) * 2)).map f8) rfl HOWN8.out ⟨w13.heap.size, 0, none⟩ 1 1 [.slice xa xq xc, .int .i64 y] rfl rfl HN8.out (by simp [Value.oneCell']) (by decide) (by unfold maxLen; omega) (by omega) (Nat.le_trans HS8.out.1 (below1' _ _).size) _ rfl ?_; intro g9 cap9 w9 hown9 hgrow9 hloc9 _; have hb9 := grown_below hgrow9 HOWN8.out (Nat.le_trans HS8.out.1 (below1' _ _).size); have d9 := cell_below c8a hb9 (by omega); have e9 := frozen_below' f8a hb9 (by omega))
                        have HP9 : Hid (PutAt lo hi B w9.heap.size w (w9.setCell ⟨B + 1 + 1, 0, none⟩ (.slice (some ⟨g9, 0, none⟩) ((m + 1) + 1) cap9)) (.slice (some ⟨b, o, none⟩) n cap) (.slice (some ⟨g9, 0, none⟩) ((m + 1) + 1) cap9) ((L ++ [(r, t)]) ++ [(xr, y)])) := by
                          refine PutAt.push (w8 := (w13.setCell ⟨B + 1 + 1, 0, none⟩ (.slice (some ⟨g13, 0, none⟩) (m + 1) cap13)).alloc (.cells #[.slice xa xq xc, .int .i64 y] 77)) (M := w13.heap.size) (v := (.slice (some ⟨g13, 0, none⟩) (m + 1) cap13)) (x := (xr, y)) (ra := xa) (rc := xc) (f := f8) (R := R8) (C := C8) (HPN'.out.over ((below1' (w13.setCell ⟨B + 1 + 1, 0, none⟩ (.slice (some ⟨g13, 0, none⟩) (m + 1) cap13)) _).mono HS8.out.2)) HROWS8.out ?_ ?_ hgrow9 ?_ ?_
                          · exact RowP.old (HRX.out.below (below1' (w13.setCell ⟨B + 1 + 1, 0, none⟩ (.slice (some ⟨g13, 0, none⟩) (m + 1) cap13)) _) (by have := HS8.out; have := HH.out; omega))
                          · exact off_old HOWN8.out HRX.out (by have := HH.out; omega)
                          · rcases hloc9 with h | h
                            · exact .inl (by rw [h]; rfl)
                            · exact .inr (by rw [h]; rfl)
                          · show World.ownsRow _ _ _ _ _ _ (_ ++ [.slice xa xr.length xc, _])
                            rw [HLN'.out, HXQ.out]; exact hown9
                        clear hown9 hgrow9 hloc9 hb9
                        go_roundw
                        case rel =>
                          refine ⟨k + 1, (m + 1) + 1, true, (L ++ [(r, t)]) ++ [(xr, y)], .slice (some ⟨g9, 0, none⟩) ((m + 1) + 1) cap9, rfl, by go_num, by omega, by simp; omega, by show _ = _; rw [List.length_append, HLN'.out]; rfl, ?_, ?_⟩
                          · show _ = _
                            rw [HE.out, if_neg (by simp), putL_less HLK.out HSN.out HLS.out, if_pos rfl, HXR.out, HY.out]
                            simp
                          · show PutAt lo hi B (w9.setCell _ _).heap.size w _ _ _ _
                            have h := HP9.out
                            simpa using h
                        case measure => simp [intOf]; omega
                      exact AllReadyH.nil
                    exact AllReadyH.nil
                  exact AllReadyH.nil
                exact AllReadyH.nil
              exact AllReadyH.nil
            exact AllReadyH.nil
          · subst hs
            have HLS : Hid (rowLt r (at' l k).1 = false) := by have h := HS2.out; rw [HXR.out] at h; exact h.symm
            have HXB := HXB4
            have HRX := HRX4
            clear HS2 HXB4 HRX4
            obtain ⟨f8, R8, C8, hown8, hrows8⟩ := (HP4.out.over ((Below.refl X w4).alloc HP4.out.size (.cells #[.slice xa xq xc, .int .i64 y] 77))).laid
            rw [HLN.out] at hown8
            have HOWN8 : Hid (World.ownsRow (w4.alloc (.cells #[.slice xa xq xc, .int .i64 y] 77)) (B + 1 + 1 + 1) 77 2 v m ((List.range (m * 2)).map f8)) := hown8
            have HROWS8 : Hid (∀ i, i < (L).length → (f8 (i * 2) = .slice (R8 i) (at' (L) i).1.length (C8 i) ∧ f8 (i * 2 + 1) = .int .i64 (at' (L) i).2) ∧ RowP lo hi (B + 1 + 1 + 1) (X) (w4.alloc (.cells #[.slice xa xq xc, .int .i64 y] 77)) (R8 i) (at' (L) i).1 ∧ Off v (R8 i) (at' (L) i).1) := hrows8
            have c8 := HP4.out.out.cell (i := 0) (by omega)
            have f8' := HP4.out.out.frozen 0
            have x8 := HXB.out.cell (i := 0) (by omega)
            have y8 := HXB.out.cell (i := 1) (by omega)
            simp only [Nat.one_ne_zero, if_true, if_false] at x8 y8
            have HS8 : Hid (B + 1 + 1 + 1 ≤ w4.heap.size ∧ X ≤ w4.heap.size) := by have h1 := HP4.out.low; have h2 := HP4.out.size; exact ⟨by omega, h2⟩
            have hbw8 : Below w4.heap.size w4 (w4.alloc (.cells #[.slice xa xq xc, .int .i64 y] 77)) := below1' w4 _
            have c8a := cell_below c8 hbw8 (by have := HS8.out; omega)
            have f8a := frozen_below' f8' hbw8 (by have := HS8.out; omega)
            have HN8 : Hid (∀ i u, [Value.slice xa xq xc, Value.int .i64 y][i]? = some u → (w4.alloc (.cells #[.slice xa xq xc, .int .i64 y] 77)).cell? ((⟨w4.heap.size, 0, none⟩ : Addr).add i) = some u) := by
              have h := news_two w4 (.slice xa xq xc) (.int .i64 y) 77
              simpa [Hid] using h
            clear hown8 hrows8 hbw8
            go_wp2_with (at_builtin; refine wpList_append_lies _ rfl (.tmp 60) (.tmp 62) 24 rfl (B + 1 + 1 + 1) 77 i1 _ 2 32 Try.underlying24 hj0 hy0 hy1 hy2 rfl (by decide) v (m) ((List.range ((m) * 2)).map f8) rfl HOWN8.out ⟨w4.heap.size, 0, none⟩ 1 1 [.slice xa xq xc, .int .i64 y] rfl rfl HN8.out (by simp [Value.oneCell']) (by decide) (by unfold maxLen; omega) (by omega) (Nat.le_trans HS8.out.1 (below1' _ _).size) _ rfl ?_; intro g9 cap9 w9 hown9 hgrow9 hloc9 _; have hb9 := grown_below hgrow9 HOWN8.out (Nat.le_trans HS8.out.1 (below1' _ _).size); have d9 := cell_below c8a hb9 (by omega); have e9 := frozen_below' f8a hb9 (by omega))
            have HP9 : Hid (PutAt lo hi B w9.heap.size w (w9.setCell ⟨B + 1 + 1, 0, none⟩ (.slice (some ⟨g9, 0, none⟩) (m + 1) cap9)) (.slice (some ⟨b, o, none⟩) n cap) (.slice (some ⟨g9, 0, none⟩) (m + 1) cap9) ((L) ++ [(xr, y)])) := by
              refine PutAt.push (w8 := w4.alloc (.cells #[.slice xa xq xc, .int .i64 y] 77)) (M := X) (v := v) (x := (xr, y)) (ra := xa) (rc := xc) (f := f8) (R := R8) (C := C8) (HP4.out.over ((below1' w4 _).mono HS8.out.2)) HROWS8.out ?_ ?_ hgrow9 ?_ ?_
              · exact RowP.old (HRX.out.below (below1' w4 _) (by have := HS8.out; have := HH.out; omega))
              · exact off_old HOWN8.out HRX.out (by have := HH.out; omega)
              · rcases hloc9 with h | h
                · exact .inl (by rw [h]; rfl)
                · exact .inr (by rw [h]; rfl)
              · show World.ownsRow _ _ _ _ _ _ (_ ++ [.slice xa xr.length xc, _])
                rw [HLN.out, HXQ.out]; exact hown9
            clear hown9 hgrow9 hloc9 hb9
            go_roundw
            case rel =>
              refine ⟨k + 1, m + 1, false, (L) ++ [(xr, y)], .slice (some ⟨g9, 0, none⟩) (m + 1) cap9, rfl, by go_num, by omega, by simp; omega, by show _ = _; rw [List.length_append, HLN.out]; rfl, ?_, ?_⟩
              · show _ = _
                rw [HE.out, if_neg (by simp), putL_more HLK.out HSN.out HLS.out, if_neg (by simp), HXR.out, HY.out]
                simp
              · show PutAt lo hi B (w9.setCell _ _).heap.size w _ _ _ _
                have h := HP9.out
                simpa using h
            case measure => simp [intOf]; omega
    · obtain rfl : n = k := by omega
      rcases Bool.eq_false_or_eq_true dn with hd | hd
      · subst hd
        have HPL : Hid (putL r t l = L) := by
          have h := HE.out
          rw [if_pos rfl, List.drop_eq_nil_of_le (by rw [HN.out]; exact Nat.le_refl _), List.append_nil] at h
          exact h
        clear HE
        have c1 := HP.out.res.cell (i := 0) (by omega)
        have f1 := HP.out.res.frozen 0
        have c2 := HP.out.out.cell (i := 0) (by omega)
        have HBE : Hid (Below B w wr) := HP.out.bel
        have HSE : Hid (B + 1 + 1 + 1 ≤ wr.heap.size ∧ wr.heap.size ≤ wr.heap.size ∧ hi ≤ B) := ⟨HP.out.low, HP.out.size, HP.out.old⟩
        obtain ⟨av, capv, hv, hin⟩ := (HP.out.laid.upto (w' := wr.setCell ⟨B + 1, 0, none⟩ (v : Value)) HP.out.vlt (fun k hk => Below.heap_setCell _ _ _ _ (by have := HSE.out; simp; omega))).toIn (by have := HLO.out; omega) (by have := HSE.out; omega) (by simp)
        have HIN : Hid (BagIn lo (wr.setCell ⟨B + 1, 0, none⟩ v).heap.size (wr.setCell ⟨B + 1, 0, none⟩ v) av (L)) := hin
        have HVV : Hid ((v : Value) = .slice av (L).length capv) := hv
        clear hin hv HP
        obtain ⟨n', HN'⟩ : ∃ n', Hid (L.length = n') := ⟨_, rfl⟩
        have hvv := HVV.out
        rw [HN'.out] at hvv
        subst hvv
        go_wp2
        refine bodyPost_ret (v := .agg #[.slice av n' capv]) (by simp [results, Try.results114, go_sem, c1]) rfl ?_
        refine ⟨av, n', ⟨capv, rfl⟩, by show _ = _; rw [HPL.out]; exact HN'.out, by show BagIn _ _ _ _ _; rw [HPL.out]; exact HIN.out, ?_⟩
        rw [← HB.out]; exact HBE.out.setCell (by simp) _
      · subst hd
        have hmk' : m ≤ n := by simpa using hmk
        clear hmk
        have HPL : Hid (putL r t l = L ++ [(r, t)]) := by
          have h := HE.out
          rw [if_neg (by simp), putL_end (by rw [HN.out]; exact Nat.le_refl _)] at h
          exact h
        clear HE
        obtain ⟨f7, R7, C7, hown7, hrows7⟩ := HP.out.laid
        rw [HLN.out] at hown7
        have HOWN7 : Hid (World.ownsRow wr (B + 1 + 1 + 1) 77 2 v m ((List.range (m * 2)).map f7)) := hown7
        have HROWS7 : Hid (∀ i, i < L.length → (f7 (i * 2) = .slice (R7 i) (at' L i).1.length (C7 i) ∧ f7 (i * 2 + 1) = .int .i64 (at' L i).2) ∧ RowP lo hi (B + 1 + 1 + 1) wr.heap.size wr (R7 i) (at' L i).1 ∧ Off v (R7 i) (at' L i).1) := hrows7
        have c7 := HP.out.out.cell (i := 0) (by omega)
        have f7' := HP.out.out.frozen 0
        have HS7 : Hid (B + 1 + 1 + 1 ≤ wr.heap.size ∧ B + 1 + 1 < wr.heap.size ∧ wr.heap.size ≤ wr.heap.size) := by have h1 := HP.out.low; have h2 := HP.out.size; exact ⟨by omega, by omega, h2⟩
        have HNB7 : Hid (Below wr.heap.size wr (wr.drew.alloc (.cells #[] 3))) := (Below.refl _ _).drew.alloc (Nat.le_refl _) _
        have c7n := cell_below c7 HNB7.out HS7.out.2.1
        have c7m : (wr.alloc (.cells #[] 3)).drew.cell? ⟨B + 1 + 1, 0, none⟩ = some v := c7n
        have c7k : (wr.alloc (.cells #[] 3)).cell? ⟨B + 1 + 1, 0, none⟩ = some v := c7n
        have HRR7 : Hid (RowIn lo' hi' wr ra r) := HR.out.below HP.out.bel HH'.out
        have HRH7 : Hid (hi' ≤ wr.heap.size) := by have := HH'.out; have := HS7.out.1; show _ ≤ _; omega
        clear hown7 hrows7
        go_wp2_with fail
        refine wp_region_held_drew (S := fun _ => True) (by kernel_rfl) trivial (fun hHeld => ?_)
        refine wpAnyH_take (i := 0) (oi := _) (v := ?_) rfl (by kernel_rfl) (by kernel_rfl) (by kernel_rfl) (fun _ _ _ h => h) (Or.inl ⟨by rfl, ?_⟩) (by assumption) ?_
        rotate_left
        · intro w hSw; (try dsimp only at hSw); go_simp; try with_reducible rfl
        simp only [Act.put]
        refine wpAnyH_take (i := 3) (oi := _) (v := ?_) rfl (by kernel_rfl) (by kernel_rfl) (by kernel_rfl) (fun _ _ _ h => h) (Or.inl ⟨by rfl, ?_⟩) (by assumption) ?_
        rotate_left
        · intro w hSw; (try dsimp only at hSw); go_simp; try with_reducible rfl
        simp only [Act.put]
        refine wpAnyH_take (i := 5) (oi := _) (v := ?_) rfl (by kernel_rfl) (by kernel_rfl) (by kernel_rfl) (fun _ _ _ h => h) (Or.inl ⟨by rfl, ?_⟩) (by assumption) ?_
        rotate_left
        · intro w hSw; (try dsimp only at hSw); go_simp; try with_reducible rfl
        simp only [Act.put]
        refine wpAnyH_ready (rs := [1, 2]) (by kernel_rfl) (by simp) ?_
        refine AllReadyH.cons rfl (fun K hK => ?_) ?_
        · go_simp
          refine hK.out _ _ hHeld (fun hHeld => ?_)
          clear hK K
          refine wpAnyH_ready (rs := [2]) (by kernel_rfl) (by simp) ?_
          refine AllReadyH.cons rfl (fun K hK => ?_) ?_
          · go_simp
            refine hK.out _ _ (trivial) (fun hHeld => ?_)
            clear hK K
            refine wpAnyH_ready (rs := [4]) (by kernel_rfl) (by simp) ?_
            refine AllReadyH.cons rfl (fun K hK => ?_) ?_
            · refine step_append_row _ rfl (.tmp 69) (.tmp 70) 39 rfl wr.heap.size 3 i0 (.int .i64 0) 1 8 Try.underlying39 hi0 hz0 hz1 hz2 rfl (by decide) _ 0 [] rfl (World.ownsRow_made wr.drew #[] 0 (Nat.le_refl _) (Nat.zero_le _) rfl) ra q rc (rowCells r) rfl (rowIn_none HRR7.out HQ.out) (by rw [rowCells_len, HQ.out]) (rowCells_at (HRR7.out.below HNB7.out HRH7.out)) (rowCells_one _) (by unfold maxLen; omega) (by omega) (by simp) ?_; intro v1 w12 hown1 hgrow1; obtain ⟨⟨a1, cap1, rfl, hr1⟩, hb12⟩ := row_made HQ.out hown1 hgrow1; have d7 := cell_below c7 hb12 HS7.out.2.1; have d7' := fun o => cell_below c7 (below_more hb12 o) HS7.out.2.1; clear hown1 hgrow1
              refine hK.out _ _ (trivial) (fun hHeld => ?_)
              clear hK K
              refine wpAnyH_take (i := 6) (oi := _) (v := ?_) rfl (by kernel_rfl) (by kernel_rfl) (by kernel_rfl) (fun _ _ _ h => h) (Or.inl ⟨by rfl, ?_⟩) (by assumption) ?_
              rotate_left
              · intro w hSw; (try dsimp only at hSw); go_simp; try with_reducible rfl
              simp only [Act.put]
              refine wpAnyH_ready (rs := [7]) (by kernel_rfl) (by simp) ?_
              refine AllReadyH.cons rfl (fun K hK => ?_) ?_
              · go_simp
                refine hK.out _ _ (trivial) (fun hHeld => ?_)
                clear hK K
                refine wpAnyH_ready (rs := [8]) (by kernel_rfl) (by simp) ?_
                refine AllReadyH.cons rfl (fun K hK => ?_) ?_
                · refine step_append_lies _ rfl (.tmp 68) (.tmp 74) 24 rfl (B + 1 + 1 + 1) 77 i1 _ 2 32 Try.underlying24 hj0 hy0 hy1 hy2 rfl (by decide) v m ((List.range (m * 2)).map f7) rfl (owns_below HOWN7.out (below_more hb12 _)) ⟨w12.heap.size, 0, none⟩ 1 1 [.slice a1 q cap1, .int .i64 t] rfl rfl (news_two w12 _ _ _) (by simp [Value.oneCell']) (by decide) (by unfold maxLen; omega) (by omega) (Nat.le_trans HS7.out.1 (below_more hb12 _).size) _ rfl ?_; intro g13 cap13 w13 hown13 hgrow13 hloc13 _; have hb13 := grown_below hgrow13 HOWN7.out (Nat.le_trans HS7.out.1 (below_more hb12 _).size); have d13 := cell_below (d7' _) hb13 (by omega); have g13' := frozen_below f7' (below_more hb12 _) hb13 HS7.out.2.1 (by omega)
                  refine hK.out _ _ (trivial) (fun hHeld => ?_)
                  clear hK K
                  refine wpAnyH_take (i := 9) (oi := _) (v := ?_) rfl (by kernel_rfl) (by kernel_rfl) (by kernel_rfl) (fun _ _ _ h => h) (Or.inl ⟨by rfl, ?_⟩) (by assumption) ?_
                  rotate_left
                  · intro w hSw; (try dsimp only at hSw); go_simp; try with_reducible rfl
                  simp only [Act.put]
                  refine wpAnyH_ready (rs := [10]) (by kernel_rfl) (by simp) ?_
                  refine AllReadyH.cons rfl (fun K hK => ?_) ?_
                  · go_simp
                    refine hK.out _ _ (trivial) (fun hHeld => ?_)
                    clear hK K
                    refine wpAnyH_done (by kernel_rfl) ?_ _
                    have HPN : Hid (PutAt lo hi B w13.heap.size w (w13.setCell ⟨B + 1 + 1, 0, none⟩ (.slice (some ⟨g13, 0, none⟩) (m + 1) cap13)) (.slice a n cap) (.slice (some ⟨g13, 0, none⟩) (m + 1) cap13) (L ++ [(r, t)])) := by
                      have hrow : RowIn wr.heap.size w12.heap.size w12 a1 r := hr1.toIn
                      refine PutAt.push (w8 := w12.alloc (.cells #[.slice a1 q cap1, .int .i64 t] 77)) (M := wr.heap.size) (v := v) (x := (r, t)) (ra := a1) (rc := cap1) (f := f7) (R := R7) (C := C7) (HP.out.over ((below_more hb12 _).mono HS7.out.2.2)) (fun i hi => ?_) ?_ ?_ hgrow13 ?_ ?_
                      · obtain ⟨p1, p2, p3⟩ := HROWS7.out i hi
                        have hold := HP.out.old
                        have hs7 := HS7.out
                        exact ⟨p1, p2.upto (fun k hk => (below_more hb12 _).block k (by omega)), p3⟩
                      · exact RowP.new ((hrow.below (below1' w12 _) (Nat.le_refl _)).wide HS7.out.1 (by simp))
                      · exact off_new hrow HS7.out.2.2 HP.out.vlt
                      · rcases hloc13 with h | h
                        · exact .inl (by rw [h]; rfl)
                        · exact .inr (by rw [h]; rfl)
                      · show World.ownsRow _ _ _ _ _ _ (_ ++ [.slice a1 r.length cap1, _])
                        rw [HLN.out, HQ.out]; exact hown13
                    clear hown13 hgrow13 hloc13 hb13 d13 g13' d7 d7' hr1 hb12 hHeld c7n c7m c7k c7 f7' HP c0
                    have c1 := HPN.out.res.cell (i := 0) (by omega)
                    have f1 := HPN.out.res.frozen 0
                    have c2 := HPN.out.out.cell (i := 0) (by omega)
                    have HBE : Hid (Below B w (w13.setCell ⟨B + 1 + 1, 0, none⟩ (.slice (some ⟨g13, 0, none⟩) (m + 1) cap13))) := HPN.out.bel
                    have HSE : Hid (B + 1 + 1 + 1 ≤ w13.heap.size ∧ w13.heap.size ≤ (w13.setCell ⟨B + 1 + 1, 0, none⟩ (.slice (some ⟨g13, 0, none⟩) (m + 1) cap13)).heap.size ∧ hi ≤ B) := ⟨HPN.out.low, HPN.out.size, HPN.out.old⟩
                    obtain ⟨av, capv, hv, hin⟩ := (HPN.out.laid.upto (w' := (w13.setCell ⟨B + 1 + 1, 0, none⟩ (.slice (some ⟨g13, 0, none⟩) (m + 1) cap13)).setCell ⟨B + 1, 0, none⟩ ((.slice (some ⟨g13, 0, none⟩) (m + 1) cap13) : Value)) HPN.out.vlt (fun k hk => Below.heap_setCell _ _ _ _ (by have := HSE.out; simp; omega))).toIn (by have := HLO.out; omega) (by have := HSE.out; omega) (by simp)
                    have HIN : Hid (BagIn lo ((w13.setCell ⟨B + 1 + 1, 0, none⟩ (.slice (some ⟨g13, 0, none⟩) (m + 1) cap13)).setCell ⟨B + 1, 0, none⟩ (.slice (some ⟨g13, 0, none⟩) (m + 1) cap13)).heap.size ((w13.setCell ⟨B + 1 + 1, 0, none⟩ (.slice (some ⟨g13, 0, none⟩) (m + 1) cap13)).setCell ⟨B + 1, 0, none⟩ (.slice (some ⟨g13, 0, none⟩) (m + 1) cap13)) av (L ++ [(r, t)])) := hin
                    have HVV : Hid (((.slice (some ⟨g13, 0, none⟩) (m + 1) cap13) : Value) = .slice av (L ++ [(r, t)]).length capv) := hv
                    clear hin hv HPN
                    go_wp2
                    refine bodyPost_ret (v := .agg #[(.slice (some ⟨g13, 0, none⟩) (m + 1) cap13)]) (by simp [results, Try.results114, go_sem, c1]) rfl ?_
                    refine ⟨av, _, capv, by rw [HVV.out], by show _ = _; rw [HPL.out], by show BagIn _ _ _ _ _; rw [HPL.out]; exact HIN.out, ?_⟩
                    rw [← HB.out]; exact HBE.out.setCell (by simp) _
                  exact AllReadyH.nil
                exact AllReadyH.nil
              exact AllReadyH.nil
            exact AllReadyH.nil
          exact AllReadyH.nil
        refine AllReadyH.cons rfl (fun K hK => ?_) ?_
        · go_simp
          refine hK.out _ _ (trivial) (fun hHeld => ?_)
          clear hK K
          refine wpAnyH_ready (rs := [1, 4]) (by kernel_rfl) (by simp) ?_
          refine AllReadyH.cons rfl (fun K hK => ?_) ?_
          · go_simp
            refine hK.out _ _ hHeld (fun hHeld => ?_)
            clear hK K
            refine wpAnyH_ready (rs := [4]) (by kernel_rfl) (by simp) ?_
            refine AllReadyH.cons rfl (fun K hK => ?_) ?_
            · refine step_append_row _ rfl (.tmp 69) (.tmp 70) 39 rfl wr.heap.size 3 i0 (.int .i64 0) 1 8 Try.underlying39 hi0 hz0 hz1 hz2 rfl (by decide) _ 0 [] rfl (World.ownsRow_made wr.drew #[] 0 (Nat.le_refl _) (Nat.zero_le _) rfl) ra q rc (rowCells r) rfl (rowIn_none HRR7.out HQ.out) (by rw [rowCells_len, HQ.out]) (rowCells_at (HRR7.out.below HNB7.out HRH7.out)) (rowCells_one _) (by unfold maxLen; omega) (by omega) (by simp) ?_; intro v1 w12 hown1 hgrow1; obtain ⟨⟨a1, cap1, rfl, hr1⟩, hb12⟩ := row_made HQ.out hown1 hgrow1; have d7 := cell_below c7 hb12 HS7.out.2.1; have d7' := fun o => cell_below c7 (below_more hb12 o) HS7.out.2.1; clear hown1 hgrow1
              refine hK.out _ _ (trivial) (fun hHeld => ?_)
              clear hK K
              refine wpAnyH_take (i := 6) (oi := _) (v := ?_) rfl (by kernel_rfl) (by kernel_rfl) (by kernel_rfl) (fun _ _ _ h => h) (Or.inl ⟨by rfl, ?_⟩) (by assumption) ?_
              rotate_left
              · intro w hSw; (try dsimp only at hSw); go_simp; try with_reducible rfl
              simp only [Act.put]
              refine wpAnyH_ready (rs := [7]) (by kernel_rfl) (by simp) ?_
              refine AllReadyH.cons rfl (fun K hK => ?_) ?_
              · go_simp
                refine hK.out _ _ (trivial) (fun hHeld => ?_)
                clear hK K
                refine wpAnyH_ready (rs := [8]) (by kernel_rfl) (by simp) ?_
                refine AllReadyH.cons rfl (fun K hK => ?_) ?_
                · refine step_append_lies _ rfl (.tmp 68) (.tmp 74) 24 rfl (B + 1 + 1 + 1) 77 i1 _ 2 32 Try.underlying24 hj0 hy0 hy1 hy2 rfl (by decide) v m ((List.range (m * 2)).map f7) rfl (owns_below HOWN7.out (below_more hb12 _)) ⟨w12.heap.size, 0, none⟩ 1 1 [.slice a1 q cap1, .int .i64 t] rfl rfl (news_two w12 _ _ _) (by simp [Value.oneCell']) (by decide) (by unfold maxLen; omega) (by omega) (Nat.le_trans HS7.out.1 (below_more hb12 _).size) _ rfl ?_; intro g13 cap13 w13 hown13 hgrow13 hloc13 _; have hb13 := grown_below hgrow13 HOWN7.out (Nat.le_trans HS7.out.1 (below_more hb12 _).size); have d13 := cell_below (d7' _) hb13 (by omega); have g13' := frozen_below f7' (below_more hb12 _) hb13 HS7.out.2.1 (by omega)
                  refine hK.out _ _ (trivial) (fun hHeld => ?_)
                  clear hK K
                  refine wpAnyH_take (i := 9) (oi := _) (v := ?_) rfl (by kernel_rfl) (by kernel_rfl) (by kernel_rfl) (fun _ _ _ h => h) (Or.inl ⟨by rfl, ?_⟩) (by assumption) ?_
                  rotate_left
                  · intro w hSw; (try dsimp only at hSw); go_simp; try with_reducible rfl
                  simp only [Act.put]
                  refine wpAnyH_ready (rs := [10]) (by kernel_rfl) (by simp) ?_
                  refine AllReadyH.cons rfl (fun K hK => ?_) ?_
                  · go_simp
                    refine hK.out _ _ (trivial) (fun hHeld => ?_)
                    clear hK K
                    refine wpAnyH_done (by kernel_rfl) ?_ _
                    have HPN : Hid (PutAt lo hi B w13.heap.size w (w13.setCell ⟨B + 1 + 1, 0, none⟩ (.slice (some ⟨g13, 0, none⟩) (m + 1) cap13)) (.slice a n cap) (.slice (some ⟨g13, 0, none⟩) (m + 1) cap13) (L ++ [(r, t)])) := by
                      have hrow : RowIn wr.heap.size w12.heap.size w12 a1 r := hr1.toIn
                      refine PutAt.push (w8 := w12.alloc (.cells #[.slice a1 q cap1, .int .i64 t] 77)) (M := wr.heap.size) (v := v) (x := (r, t)) (ra := a1) (rc := cap1) (f := f7) (R := R7) (C := C7) (HP.out.over ((below_more hb12 _).mono HS7.out.2.2)) (fun i hi => ?_) ?_ ?_ hgrow13 ?_ ?_
                      · obtain ⟨p1, p2, p3⟩ := HROWS7.out i hi
                        have hold := HP.out.old
                        have hs7 := HS7.out
                        exact ⟨p1, p2.upto (fun k hk => (below_more hb12 _).block k (by omega)), p3⟩
                      · exact RowP.new ((hrow.below (below1' w12 _) (Nat.le_refl _)).wide HS7.out.1 (by simp))
                      · exact off_new hrow HS7.out.2.2 HP.out.vlt
                      · rcases hloc13 with h | h
                        · exact .inl (by rw [h]; rfl)
                        · exact .inr (by rw [h]; rfl)
                      · show World.ownsRow _ _ _ _ _ _ (_ ++ [.slice a1 r.length cap1, _])
                        rw [HLN.out, HQ.out]; exact hown13
                    clear hown13 hgrow13 hloc13 hb13 d13 g13' d7 d7' hr1 hb12 hHeld c7n c7m c7k c7 f7' HP c0
                    have c1 := HPN.out.res.cell (i := 0) (by omega)
                    have f1 := HPN.out.res.frozen 0
                    have c2 := HPN.out.out.cell (i := 0) (by omega)
                    have HBE : Hid (Below B w (w13.setCell ⟨B + 1 + 1, 0, none⟩ (.slice (some ⟨g13, 0, none⟩) (m + 1) cap13))) := HPN.out.bel
                    have HSE : Hid (B + 1 + 1 + 1 ≤ w13.heap.size ∧ w13.heap.size ≤ (w13.setCell ⟨B + 1 + 1, 0, none⟩ (.slice (some ⟨g13, 0, none⟩) (m + 1) cap13)).heap.size ∧ hi ≤ B) := ⟨HPN.out.low, HPN.out.size, HPN.out.old⟩
                    obtain ⟨av, capv, hv, hin⟩ := (HPN.out.laid.upto (w' := (w13.setCell ⟨B + 1 + 1, 0, none⟩ (.slice (some ⟨g13, 0, none⟩) (m + 1) cap13)).setCell ⟨B + 1, 0, none⟩ ((.slice (some ⟨g13, 0, none⟩) (m + 1) cap13) : Value)) HPN.out.vlt (fun k hk => Below.heap_setCell _ _ _ _ (by have := HSE.out; simp; omega))).toIn (by have := HLO.out; omega) (by have := HSE.out; omega) (by simp)
                    have HIN : Hid (BagIn lo ((w13.setCell ⟨B + 1 + 1, 0, none⟩ (.slice (some ⟨g13, 0, none⟩) (m + 1) cap13)).setCell ⟨B + 1, 0, none⟩ (.slice (some ⟨g13, 0, none⟩) (m + 1) cap13)).heap.size ((w13.setCell ⟨B + 1 + 1, 0, none⟩ (.slice (some ⟨g13, 0, none⟩) (m + 1) cap13)).setCell ⟨B + 1, 0, none⟩ (.slice (some ⟨g13, 0, none⟩) (m + 1) cap13)) av (L ++ [(r, t)])) := hin
                    have HVV : Hid (((.slice (some ⟨g13, 0, none⟩) (m + 1) cap13) : Value) = .slice av (L ++ [(r, t)]).length capv) := hv
                    clear hin hv HPN
                    go_wp2
                    refine bodyPost_ret (v := .agg #[(.slice (some ⟨g13, 0, none⟩) (m + 1) cap13)]) (by simp [results, Try.results114, go_sem, c1]) rfl ?_
                    refine ⟨av, _, capv, by rw [HVV.out], by show _ = _; rw [HPL.out], by show BagIn _ _ _ _ _; rw [HPL.out]; exact HIN.out, ?_⟩
                    rw [← HB.out]; exact HBE.out.setCell (by simp) _
                  exact AllReadyH.nil
                exact AllReadyH.nil
              exact AllReadyH.nil
            exact AllReadyH.nil
          refine AllReadyH.cons rfl (fun K hK => ?_) ?_
          · refine step_append_row _ rfl (.tmp 69) (.tmp 70) 39 rfl wr.heap.size 3 i0 (.int .i64 0) 1 8 Try.underlying39 hi0 hz0 hz1 hz2 rfl (by decide) _ 0 [] rfl (World.ownsRow_made wr.drew #[] 0 (Nat.le_refl _) (Nat.zero_le _) rfl) ra q rc (rowCells r) rfl (rowIn_none HRR7.out HQ.out) (by rw [rowCells_len, HQ.out]) (rowCells_at (HRR7.out.below HNB7.out HRH7.out)) (rowCells_one _) (by unfold maxLen; omega) (by omega) (by simp) ?_; intro v1 w12 hown1 hgrow1; obtain ⟨⟨a1, cap1, rfl, hr1⟩, hb12⟩ := row_made HQ.out hown1 hgrow1; have d7 := cell_below c7 hb12 HS7.out.2.1; have d7' := fun o => cell_below c7 (below_more hb12 o) HS7.out.2.1; clear hown1 hgrow1
            refine hK.out _ _ (trivial) (fun hHeld => ?_)
            clear hK K
            refine wpAnyH_take (i := 6) (oi := _) (v := ?_) rfl (by kernel_rfl) (by kernel_rfl) (by kernel_rfl) (fun _ _ _ h => h) (Or.inl ⟨by rfl, ?_⟩) (by assumption) ?_
            rotate_left
            · intro w hSw; (try dsimp only at hSw); go_simp; try with_reducible rfl
            simp only [Act.put]
            refine wpAnyH_ready (rs := [1, 7]) (by kernel_rfl) (by simp) ?_
            refine AllReadyH.cons rfl (fun K hK => ?_) ?_
            · go_simp
              refine hK.out _ _ hHeld (fun hHeld => ?_)
              clear hK K
              refine wpAnyH_ready (rs := [7]) (by kernel_rfl) (by simp) ?_
              refine AllReadyH.cons rfl (fun K hK => ?_) ?_
              · go_simp
                refine hK.out _ _ (trivial) (fun hHeld => ?_)
                clear hK K
                refine wpAnyH_ready (rs := [8]) (by kernel_rfl) (by simp) ?_
                refine AllReadyH.cons rfl (fun K hK => ?_) ?_
                · refine step_append_lies _ rfl (.tmp 68) (.tmp 74) 24 rfl (B + 1 + 1 + 1) 77 i1 _ 2 32 Try.underlying24 hj0 hy0 hy1 hy2 rfl (by decide) v m ((List.range (m * 2)).map f7) rfl (owns_below HOWN7.out (below_more hb12 _)) ⟨w12.heap.size, 0, none⟩ 1 1 [.slice a1 q cap1, .int .i64 t] rfl rfl (news_two w12 _ _ _) (by simp [Value.oneCell']) (by decide) (by unfold maxLen; omega) (by omega) (Nat.le_trans HS7.out.1 (below_more hb12 _).size) _ rfl ?_; intro g13 cap13 w13 hown13 hgrow13 hloc13 _; have hb13 := grown_below hgrow13 HOWN7.out (Nat.le_trans HS7.out.1 (below_more hb12 _).size); have d13 := cell_below (d7' _) hb13 (by omega); have g13' := frozen_below f7' (below_more hb12 _) hb13 HS7.out.2.1 (by omega)
                  refine hK.out _ _ (trivial) (fun hHeld => ?_)
                  clear hK K
                  refine wpAnyH_take (i := 9) (oi := _) (v := ?_) rfl (by kernel_rfl) (by kernel_rfl) (by kernel_rfl) (fun _ _ _ h => h) (Or.inl ⟨by rfl, ?_⟩) (by assumption) ?_
                  rotate_left
                  · intro w hSw; (try dsimp only at hSw); go_simp; try with_reducible rfl
                  simp only [Act.put]
                  refine wpAnyH_ready (rs := [10]) (by kernel_rfl) (by simp) ?_
                  refine AllReadyH.cons rfl (fun K hK => ?_) ?_
                  · go_simp
                    refine hK.out _ _ (trivial) (fun hHeld => ?_)
                    clear hK K
                    refine wpAnyH_done (by kernel_rfl) ?_ _
                    have HPN : Hid (PutAt lo hi B w13.heap.size w (w13.setCell ⟨B + 1 + 1, 0, none⟩ (.slice (some ⟨g13, 0, none⟩) (m + 1) cap13)) (.slice a n cap) (.slice (some ⟨g13, 0, none⟩) (m + 1) cap13) (L ++ [(r, t)])) := by
                      have hrow : RowIn wr.heap.size w12.heap.size w12 a1 r := hr1.toIn
                      refine PutAt.push (w8 := w12.alloc (.cells #[.slice a1 q cap1, .int .i64 t] 77)) (M := wr.heap.size) (v := v) (x := (r, t)) (ra := a1) (rc := cap1) (f := f7) (R := R7) (C := C7) (HP.out.over ((below_more hb12 _).mono HS7.out.2.2)) (fun i hi => ?_) ?_ ?_ hgrow13 ?_ ?_
                      · obtain ⟨p1, p2, p3⟩ := HROWS7.out i hi
                        have hold := HP.out.old
                        have hs7 := HS7.out
                        exact ⟨p1, p2.upto (fun k hk => (below_more hb12 _).block k (by omega)), p3⟩
                      · exact RowP.new ((hrow.below (below1' w12 _) (Nat.le_refl _)).wide HS7.out.1 (by simp))
                      · exact off_new hrow HS7.out.2.2 HP.out.vlt
                      · rcases hloc13 with h | h
                        · exact .inl (by rw [h]; rfl)
                        · exact .inr (by rw [h]; rfl)
                      · show World.ownsRow _ _ _ _ _ _ (_ ++ [.slice a1 r.length cap1, _])
                        rw [HLN.out, HQ.out]; exact hown13
                    clear hown13 hgrow13 hloc13 hb13 d13 g13' d7 d7' hr1 hb12 hHeld c7n c7m c7k c7 f7' HP c0
                    have c1 := HPN.out.res.cell (i := 0) (by omega)
                    have f1 := HPN.out.res.frozen 0
                    have c2 := HPN.out.out.cell (i := 0) (by omega)
                    have HBE : Hid (Below B w (w13.setCell ⟨B + 1 + 1, 0, none⟩ (.slice (some ⟨g13, 0, none⟩) (m + 1) cap13))) := HPN.out.bel
                    have HSE : Hid (B + 1 + 1 + 1 ≤ w13.heap.size ∧ w13.heap.size ≤ (w13.setCell ⟨B + 1 + 1, 0, none⟩ (.slice (some ⟨g13, 0, none⟩) (m + 1) cap13)).heap.size ∧ hi ≤ B) := ⟨HPN.out.low, HPN.out.size, HPN.out.old⟩
                    obtain ⟨av, capv, hv, hin⟩ := (HPN.out.laid.upto (w' := (w13.setCell ⟨B + 1 + 1, 0, none⟩ (.slice (some ⟨g13, 0, none⟩) (m + 1) cap13)).setCell ⟨B + 1, 0, none⟩ ((.slice (some ⟨g13, 0, none⟩) (m + 1) cap13) : Value)) HPN.out.vlt (fun k hk => Below.heap_setCell _ _ _ _ (by have := HSE.out; simp; omega))).toIn (by have := HLO.out; omega) (by have := HSE.out; omega) (by simp)
                    have HIN : Hid (BagIn lo ((w13.setCell ⟨B + 1 + 1, 0, none⟩ (.slice (some ⟨g13, 0, none⟩) (m + 1) cap13)).setCell ⟨B + 1, 0, none⟩ (.slice (some ⟨g13, 0, none⟩) (m + 1) cap13)).heap.size ((w13.setCell ⟨B + 1 + 1, 0, none⟩ (.slice (some ⟨g13, 0, none⟩) (m + 1) cap13)).setCell ⟨B + 1, 0, none⟩ (.slice (some ⟨g13, 0, none⟩) (m + 1) cap13)) av (L ++ [(r, t)])) := hin
                    have HVV : Hid (((.slice (some ⟨g13, 0, none⟩) (m + 1) cap13) : Value) = .slice av (L ++ [(r, t)]).length capv) := hv
                    clear hin hv HPN
                    go_wp2
                    refine bodyPost_ret (v := .agg #[(.slice (some ⟨g13, 0, none⟩) (m + 1) cap13)]) (by simp [results, Try.results114, go_sem, c1]) rfl ?_
                    refine ⟨av, _, capv, by rw [HVV.out], by show _ = _; rw [HPL.out], by show BagIn _ _ _ _ _; rw [HPL.out]; exact HIN.out, ?_⟩
                    rw [← HB.out]; exact HBE.out.setCell (by simp) _
                  exact AllReadyH.nil
                exact AllReadyH.nil
              exact AllReadyH.nil
            refine AllReadyH.cons rfl (fun K hK => ?_) ?_
            · go_simp
              refine hK.out _ _ (trivial) (fun hHeld => ?_)
              clear hK K
              refine wpAnyH_ready (rs := [1]) (by kernel_rfl) (by simp) ?_
              refine AllReadyH.cons rfl (fun K hK => ?_) ?_
              · go_simp
                refine hK.out _ _ hHeld (fun hHeld => ?_)
                clear hK K
                refine wpAnyH_ready (rs := [8]) (by kernel_rfl) (by simp) ?_
                refine AllReadyH.cons rfl (fun K hK => ?_) ?_
                · refine step_append_lies _ rfl (.tmp 68) (.tmp 74) 24 rfl (B + 1 + 1 + 1) 77 i1 _ 2 32 Try.underlying24 hj0 hy0 hy1 hy2 rfl (by decide) v m ((List.range (m * 2)).map f7) rfl (owns_below HOWN7.out (below_more hb12 _)) ⟨w12.heap.size, 0, none⟩ 1 1 [.slice a1 q cap1, .int .i64 t] rfl rfl (news_two w12 _ _ _) (by simp [Value.oneCell']) (by decide) (by unfold maxLen; omega) (by omega) (Nat.le_trans HS7.out.1 (below_more hb12 _).size) _ rfl ?_; intro g13 cap13 w13 hown13 hgrow13 hloc13 _; have hb13 := grown_below hgrow13 HOWN7.out (Nat.le_trans HS7.out.1 (below_more hb12 _).size); have d13 := cell_below (d7' _) hb13 (by omega); have g13' := frozen_below f7' (below_more hb12 _) hb13 HS7.out.2.1 (by omega)
                  refine hK.out _ _ (trivial) (fun hHeld => ?_)
                  clear hK K
                  refine wpAnyH_take (i := 9) (oi := _) (v := ?_) rfl (by kernel_rfl) (by kernel_rfl) (by kernel_rfl) (fun _ _ _ h => h) (Or.inl ⟨by rfl, ?_⟩) (by assumption) ?_
                  rotate_left
                  · intro w hSw; (try dsimp only at hSw); go_simp; try with_reducible rfl
                  simp only [Act.put]
                  refine wpAnyH_ready (rs := [10]) (by kernel_rfl) (by simp) ?_
                  refine AllReadyH.cons rfl (fun K hK => ?_) ?_
                  · go_simp
                    refine hK.out _ _ (trivial) (fun hHeld => ?_)
                    clear hK K
                    refine wpAnyH_done (by kernel_rfl) ?_ _
                    have HPN : Hid (PutAt lo hi B w13.heap.size w (w13.setCell ⟨B + 1 + 1, 0, none⟩ (.slice (some ⟨g13, 0, none⟩) (m + 1) cap13)) (.slice a n cap) (.slice (some ⟨g13, 0, none⟩) (m + 1) cap13) (L ++ [(r, t)])) := by
                      have hrow : RowIn wr.heap.size w12.heap.size w12 a1 r := hr1.toIn
                      refine PutAt.push (w8 := w12.alloc (.cells #[.slice a1 q cap1, .int .i64 t] 77)) (M := wr.heap.size) (v := v) (x := (r, t)) (ra := a1) (rc := cap1) (f := f7) (R := R7) (C := C7) (HP.out.over ((below_more hb12 _).mono HS7.out.2.2)) (fun i hi => ?_) ?_ ?_ hgrow13 ?_ ?_
                      · obtain ⟨p1, p2, p3⟩ := HROWS7.out i hi
                        have hold := HP.out.old
                        have hs7 := HS7.out
                        exact ⟨p1, p2.upto (fun k hk => (below_more hb12 _).block k (by omega)), p3⟩
                      · exact RowP.new ((hrow.below (below1' w12 _) (Nat.le_refl _)).wide HS7.out.1 (by simp))
                      · exact off_new hrow HS7.out.2.2 HP.out.vlt
                      · rcases hloc13 with h | h
                        · exact .inl (by rw [h]; rfl)
                        · exact .inr (by rw [h]; rfl)
                      · show World.ownsRow _ _ _ _ _ _ (_ ++ [.slice a1 r.length cap1, _])
                        rw [HLN.out, HQ.out]; exact hown13
                    clear hown13 hgrow13 hloc13 hb13 d13 g13' d7 d7' hr1 hb12 hHeld c7n c7m c7k c7 f7' HP c0
                    have c1 := HPN.out.res.cell (i := 0) (by omega)
                    have f1 := HPN.out.res.frozen 0
                    have c2 := HPN.out.out.cell (i := 0) (by omega)
                    have HBE : Hid (Below B w (w13.setCell ⟨B + 1 + 1, 0, none⟩ (.slice (some ⟨g13, 0, none⟩) (m + 1) cap13))) := HPN.out.bel
                    have HSE : Hid (B + 1 + 1 + 1 ≤ w13.heap.size ∧ w13.heap.size ≤ (w13.setCell ⟨B + 1 + 1, 0, none⟩ (.slice (some ⟨g13, 0, none⟩) (m + 1) cap13)).heap.size ∧ hi ≤ B) := ⟨HPN.out.low, HPN.out.size, HPN.out.old⟩
                    obtain ⟨av, capv, hv, hin⟩ := (HPN.out.laid.upto (w' := (w13.setCell ⟨B + 1 + 1, 0, none⟩ (.slice (some ⟨g13, 0, none⟩) (m + 1) cap13)).setCell ⟨B + 1, 0, none⟩ ((.slice (some ⟨g13, 0, none⟩) (m + 1) cap13) : Value)) HPN.out.vlt (fun k hk => Below.heap_setCell _ _ _ _ (by have := HSE.out; simp; omega))).toIn (by have := HLO.out; omega) (by have := HSE.out; omega) (by simp)
                    have HIN : Hid (BagIn lo ((w13.setCell ⟨B + 1 + 1, 0, none⟩ (.slice (some ⟨g13, 0, none⟩) (m + 1) cap13)).setCell ⟨B + 1, 0, none⟩ (.slice (some ⟨g13, 0, none⟩) (m + 1) cap13)).heap.size ((w13.setCell ⟨B + 1 + 1, 0, none⟩ (.slice (some ⟨g13, 0, none⟩) (m + 1) cap13)).setCell ⟨B + 1, 0, none⟩ (.slice (some ⟨g13, 0, none⟩) (m + 1) cap13)) av (L ++ [(r, t)])) := hin
                    have HVV : Hid (((.slice (some ⟨g13, 0, none⟩) (m + 1) cap13) : Value) = .slice av (L ++ [(r, t)]).length capv) := hv
                    clear hin hv HPN
                    go_wp2
                    refine bodyPost_ret (v := .agg #[(.slice (some ⟨g13, 0, none⟩) (m + 1) cap13)]) (by simp [results, Try.results114, go_sem, c1]) rfl ?_
                    refine ⟨av, _, capv, by rw [HVV.out], by show _ = _; rw [HPL.out], by show BagIn _ _ _ _ _; rw [HPL.out]; exact HIN.out, ?_⟩
                    rw [← HB.out]; exact HBE.out.setCell (by simp) _
                  exact AllReadyH.nil
                exact AllReadyH.nil
              exact AllReadyH.nil
            exact AllReadyH.nil
          exact AllReadyH.nil
        exact AllReadyH.nil
end Go.Proofs.Ytelikebpddhncaa
