/-
  Leads: again and again.
-/
import Derived.Test.YtdbogikcmfnpdaaLdB
import Derived.ChangeKeysEq
import Derived.Laws.StructEq
import Derived.Deep.RegionHeld3
namespace Go.Proofs.Ytdbogikcmfnpdaa
open Go.RowKit

theorem eqItems_leads (d : Nat) (f g : Nat → Nat) (w : World) : ∀ is : List Nat, (∀ i ∈ is, i < 13) → (Op.eqItems (d + 1) 85 1 (lcells f).toArray (lcells g).toArray is).run Try.prog w = .ok (is.all fun i => f i == g i) w
  | [], _ => by simp [Op.eqItems]
  | i :: is, h => by
    have hi : i < 13 := h i (by simp)
    have ih := eqItems_leads d f g w is (fun j hj => h j (by simp [hj]))
    have pa : ∀ f : Nat → Nat, (part 85 (lcells f).toArray (i * 1)).run Try.prog w = .ok (.int .u16 (f i : Int)) w := by
      intro f
      have e : (lcells f)[i]'(by rw [lcells_len]; exact hi) = .int .u16 (f i : Int) := by simp [lcells]
      simp [part, isAgg, run_underlying Try.underlying85, lcells_len, hi, e]
    have pe : (Op.equalIn (d + 1) 85 (.int .u16 (f i : Int)) (.int .u16 (g i : Int))).run Try.prog w = .ok (f i == g i) w := by
      rw [run_equalIn_int w d 85 .u16 .u16 _ _ Try.underlying85]
      congr 1
      rw [Bool.eq_iff_iff]
      simp
      omega
    simp only [Op.eqItems, Sem.run_bind, pa, pe, Result.andThen_ok, List.all_cons]
    cases hb : (f i == g i)
    · simp
    · simp [ih]
theorem info_ends : (Try.prog.info? 85).map (fun i => (i.zero, i.size, i.bytes)) = some (some (.int .u16 0), 1, 2) := by kernel_rfl
theorem eql_leads (f g : Nat → Nat) (w : World) : (Op.equalIn 10000 87 (lv f) (lv g)).run Try.prog w = .ok ((List.range 13).all fun i => f i == g i) w := by
  obtain ⟨i0, hi0, _, _, _⟩ := info_parts info_ends
  have hc : Try.prog.cellsOf 85 = 1 := by kernel_rfl
  rw [show (10000 : Nat) = 9999 + 1 from rfl, run_equalIn_array w 9999 _ _ Try.underlying87 hi0, hc, eqItems_leads 9998 f g w _ (fun i hi => List.mem_range.1 hi)]
theorem all_leads {f g : Nat → Nat} : ((List.range 13).all fun i => f i == g i) = true ↔ ∀ i, i < 13 → f i = g i := by simp
/-- what leads a block holds -/
def rdF (w : World) (b i : Nat) : Nat := match w.cell? ⟨b, i, none⟩ with | some (.int _ x) => x.toNat | _ => 0
theorem LBlk.rd {w : World} {b : Nat} {f : Nat → Nat} (h : LBlk w b f) {i : Nat} (hi : i < 13) : rdF w b i = f i := by unfold rdF; rw [h.get hi]; simp
theorem sumF_congr {f g : Nat → Nat} (h : ∀ i, i < 13 → f i = g i) : sumF f = sumF g := by
  unfold sumF
  rw [List.map_congr_left fun i hi => h i (List.mem_range.1 hi)]
theorem sumF_le' {f : Nat → Nat} (h : ∀ i, i < 13 → f i < 65536) : sumF f ≤ 851968 := by
  rw [sumF_congr (g := fun i => if i < 13 then f i else 0) (fun i hi => by simp [hi])]
  exact sumF_le (fun v => by by_cases e : v < 13 <;> simp [e, h v])
theorem Again.congr {n : Nat} {K : Rl} {f g : Nat → Nat} (h : Again n K f) (hn : n ≤ 13) (e : ∀ i, i < 13 → g i = f i) : Again n K g :=
  ⟨fun i hi => by rw [e i (by omega)]; exact h.low i hi, fun i hi j hj => h.up i hi j (by rw [← e i (by omega)]; exact hj)⟩
theorem Rep.cong {n : Nat} {f g : Nat → Nat} {R : Rl} (h : Rep n f R) (hn : n ≤ 13) (e : ∀ i, i < 13 → g i = f i) : Rep n g R := fun i hi j => by rw [e i (by omega)]; exact h i hi j
theorem wp_store_midH {P : Program} {ops : Array Oper} {op : Oper} {a : Act} {w : World} {K : Act → World → Prop} {Q : Exit → Act → World → Prop} {E : Prop} (hw : Region.wanted op (yielded ops a.tmps) = true) (ty : TypeId) (x y : Operand) (ho : op.op = .store ty x y)
    (b o : Nat) (cells : Array Value) (hx : a.eval x = .pointer (some ⟨b, o, none⟩)) (hy : a.eval y = .agg cells)
    (ht : w.there b o cells.size) (hi : (P.info? ty).map (·.size) = some cells.size) (h1 : cells.all (·.oneCell') = true)
    (h : K (a.put op.dst undef) (w.setCells b o cells.toList)) : if Region.wanted op (yielded ops a.tmps) = true then Oper.wp P op a w K Q else E := by
  rw [if_pos hw]
  exact wp_store_mid ty x y ho b o cells hx hy ht hi h1 h

/-- a block whose cells are known as one array -/
def wpLoads (b : Nat) (c : Array Value) (w : World) : Prop := ∃ l : List Value, c = l.toArray ∧ w.rangeAt b 0 l ∧ l.length = 13
theorem wpList_load_leads {ops : Array Oper} {rest : List Oper} {op : Oper} {a : Act} {w : World} {Q : Exit → Act → World → Prop} {x : Operand} (b : Nat) (c : Array Value) (hgd : op.guard = none) (ho : op.op = .load 87 x)
    (hx : a.eval x = .pointer (some ⟨b, 0, none⟩)) (hl : wpLoads b c w) (h : wpList Try.prog ops Q rest (a.put op.dst (.agg c)) w) : wpList Try.prog ops Q (op :: rest) a w := by
  obtain ⟨l, rfl, hr, hn⟩ := hl
  exact wpList_load_mid hgd 87 x ho b 0 hx l _ hr Try.underlying87 rfl (by rw [hn]; exact info_leads) h

set_option maxHeartbeats 8000000 in
set_option maxRecDepth 100000 in
theorem again_any (n : Nat) (K : Rl) (f : Nat → Nat) (w : World) (hn : n ≤ 13) (hR : Rep n f K) (hf : ∀ i, i < 13 → f i < 65536) : Calls Try.prog 98 #[lv f] w fun e w' => (∃ h, e = .returned (lv h) ∧ Hid (Rep n h (starR n K)) ∧ Hid (∀ i, i < 13 → h i < 65536)) ∧ Hid (Below w.heap.size w w') := by
  have HFB : Hid (∀ i, i < 13 → f i < 65536) := hf
  have HR : Hid (Rep n f K) := hR
  clear hf hR
  obtain ⟨B, HB⟩ : ∃ B, Hid (B = w.heap.size) := ⟨_, rfl⟩
  obtain ⟨W, HW⟩ : ∃ W, Hid (W = (w.alloc (.cells (lcells f).toArray 87)).alloc (.cells #[.int .u16 0, .int .u16 0, .int .u16 0, .int .u16 0, .int .u16 0, .int .u16 0, .int .u16 0, .int .u16 0, .int .u16 0, .int .u16 0, .int .u16 0, .int .u16 0, .int .u16 0] 87)) := ⟨_, rfl⟩
  have HBW : Hid (Below w.heap.size w W) := by rw [HW.out]; exact below2 w _ _
  have HX : Hid (LBlk W B f) := by rw [HW.out]; exact Blk.alloc (LBlk.new w B HB.out f _) _
  have HRS : Hid (LBlk W (B + 1) (fun _ => 0)) := by rw [HW.out]; exact LBlk.zero _ (B + 1) (by rw [HB.out]; simp) _
  have HSW : Hid (W.heap.size = B + 2) := by rw [HW.out, HB.out]; show _ = _; simp
  go_enter Try.func98, Try.ntmps98
  go_upto_region 1 with fail
  rw [← HB.out]
  first | rw [← HW.out] | (rw [show _ = W from HW.out.symm])
  clear HW
  go_wp2_with fail
  refine (nothing_any W).mono ?_
  rintro e w1 ⟨⟨F0, rfl, HF0⟩, HB1⟩
  obtain ⟨P3, HP3⟩ : ∃ P, Hid (P = w1.heap.size) := ⟨_, rfl⟩
  obtain ⟨W1, HW1⟩ : ∃ W1, Hid (W1 = (w1.alloc (.cells #[.int .u16 0, .int .u16 0, .int .u16 0, .int .u16 0, .int .u16 0, .int .u16 0, .int .u16 0, .int .u16 0, .int .u16 0, .int .u16 0, .int .u16 0, .int .u16 0, .int .u16 0] 87)).setCells P3 0 (lcells F0)) := ⟨_, rfl⟩
  have HT1 : Hid ((w1.alloc (.cells #[.int .u16 0, .int .u16 0, .int .u16 0, .int .u16 0, .int .u16 0, .int .u16 0, .int .u16 0, .int .u16 0, .int .u16 0, .int .u16 0, .int .u16 0, .int .u16 0, .int .u16 0] 87)).there w1.heap.size 0 13) := (LBlk.zero w1 _ rfl _).there
  have HX1 : Hid (LBlk W1 P3 F0) := by rw [HW1.out]; exact (LBlk.zero w1 P3 HP3.out _).put F0
  have HB2 : Hid (Below w1.heap.size w1 W1) := by rw [HW1.out]; exact Below.setCells (by have := HP3.out; omega) _ _ (below1 w1 _)
  have HBW1 : Hid (Below W.heap.size W W1) := HB1.out.trans (HB2.out.mono HB1.out.size)
  have HLT : Hid (B + 2 ≤ P3 ∧ P3 < W1.heap.size) := ⟨by have := HB1.out.size; have := HSW.out; have := HP3.out; omega, HX1.out.lt⟩
  go_wp2_with (refine wpList_store_mid rfl 87 _ _ rfl w1.heap.size 0 (lcells F0).toArray rfl rfl (by rw [lcells_size]; exact HT1.out) (by rw [lcells_size]; exact info_leads) (lcells_one _) ?_)
  rw [← HP3.out]
  first | rw [← HW1.out] | (rw [show _ = W1 from HW1.out.symm])
  clear HT1 HW1 HB1 HB2 HSW
  simp only [Act.put]
  go_loopw [] (fun wr => ∃ F : Nat → Nat, Hid (LBlk wr P3 F) ∧ Hid (∀ i, i < 13 → F i < 65536) ∧ Hid (Again n K F) ∧ Hid (LBlk wr B f) ∧ Hid (LBlk wr (B + 1) (fun _ => 0)) ∧ Hid (Below w.heap.size w wr) ∧ Hid (P3 < wr.heap.size)) (fun wr => 851968 - sumF (rdF wr P3))
  case atStart =>
    refine ⟨F0, HX1, fun i hi => ?_, (Again.start n K).congr hn HF0.out, HX.out.of (HBW1.out.block _ HX.out.lt), HRS.out.of (HBW1.out.block _ HRS.out.lt), HBW.out.trans (HBW1.out.mono HBW.out.size), HLT.out.2⟩
    rw [HF0.out i hi]
    have := Nat.pow_lt_pow_right (a := 2) (by omega) (show i < 16 by omega)
    simpa [idF] using this
  case round =>
    obtain ⟨F, HXF, HF1, HAG, HXB, HXR, HBE, HPL⟩ := hrel
    have HLT2 : Hid (B + 2 ≤ P3 ∧ P3 < wr.heap.size) := ⟨HLT.out.1, HPL.out⟩
    have HLT : Hid (B + 2 ≤ P3 ∧ P3 < wr.heap.size) := HLT2.out
    have HBE0 : Hid (Below wr.heap.size wr wr.drew) := (Below.refl _ _).drew
    have HCT : Hid (∀ w0, Calls Try.prog 96 #[lv F, lv f] w0 fun e w' => (∃ h, e = .returned (lv h) ∧ Hid (∀ i, i < 13 → h i = thenF F f i)) ∧ Hid (Below w0.heap.size w0 w')) := fun w0 => then_any F f w0 HF1.out HFB.out
    have hS0 : LBlk wr.drew P3 F ∧ LBlk wr.drew B f := ⟨HXF.out, HXB.out⟩
    go_upto_region 2 with fail
    go_cut [4] (fun p wc => ∃ (Q4 : Nat) (G : Nat → Nat), p = .pointer (some ⟨Q4, 0, none⟩) ∧ Hid (∀ i, i < 13 → G i = orF F (thenF F f) i) ∧ Hid (LBlk wc Q4 G) ∧ Hid (Below wr.heap.size wr wc))
    case first =>
      refine wp_region_held_drew (S := fun w' => LBlk w' P3 F ∧ LBlk w' B f) (by kernel_rfl) hS0 (fun hHeld => ?_)
      refine wpAnyH_take (i := 0) (oi := { dst := some 6, op := Go.Op.load 87 (Go.Operand.tmp 3), type := 87, pos := "l06_path.go:297", after := #[], guard := none }) (v := lv F) rfl (by kernel_rfl) (by kernel_rfl) (by kernel_rfl) (fun _ _ _ h => h) (yieldsIf_load_mid (by kernel_rfl) 87 _ rfl P3 0 rfl (lcells F) _ (fun w h => (h.1 : LBlk w P3 F).range) Try.underlying87 rfl (by rw [lcells_len]; exact info_leads)) (by assumption) ?_
      simp only [Act.put, List.setIfInBounds_toArray, List.set_cons_zero, List.set_cons_succ]
      refine wpAnyH_take (i := 1) (oi := { dst := some 7, op := Go.Op.load 87 (Go.Operand.tmp 3), type := 87, pos := "l06_path.go:297", after := #[], guard := none }) (v := lv F) rfl (by kernel_rfl) (by kernel_rfl) (by kernel_rfl) (fun _ _ _ h => h) (yieldsIf_load_mid (by kernel_rfl) 87 _ rfl P3 0 rfl (lcells F) _ (fun w h => (h.1 : LBlk w P3 F).range) Try.underlying87 rfl (by rw [lcells_len]; exact info_leads)) (by assumption) ?_
      simp only [Act.put, List.setIfInBounds_toArray, List.set_cons_zero, List.set_cons_succ]
      refine wpAnyH_take (i := 2) (oi := { dst := some 8, op := Go.Op.load 87 (Go.Operand.tmp 1), type := 87, pos := "l06_path.go:297", after := #[], guard := none }) (v := lv f) rfl (by kernel_rfl) (by kernel_rfl) (by kernel_rfl) (fun _ _ _ h => h) (yieldsIf_load_mid (by kernel_rfl) 87 _ rfl B 0 rfl (lcells f) _ (fun w h => (h.2 : LBlk w B f).range) Try.underlying87 rfl (by rw [lcells_len]; exact info_leads)) (by assumption) ?_
      simp only [Act.put, List.setIfInBounds_toArray, List.set_cons_zero, List.set_cons_succ]
      refine wpAnyH_ready (rs := [3, 5]) (by kernel_rfl) (by simp) ?_
      refine AllReadyH.cons (o := { dst := some 9, op := Go.Op.call { callee := Go.Callee.value (Go.Operand.func 96), args := #[Go.Operand.tmp 7, Go.Operand.tmp 8], argTypes := #[87, 87] }, type := 87, pos := "l06_path.go:297", after := #[{ on := 1, ground := Go.Ground.data }, { on := 2, ground := Go.Ground.data }], guard := none }) rfl (fun K hK => ?_) ?_
      · have hh : LBlk wr.drew P3 F ∧ LBlk wr.drew B f := hHeld
        go_simp
        go_wp2_with (go_at_call 96; refine (HCT.out _).mono ?_; rintro e w2 ⟨⟨h, rfl, HH⟩, HB2⟩)
        have hkw2 : LBlk w2 P3 F ∧ LBlk w2 B f := ⟨hh.1.of (HB2.out.block _ hh.1.lt), hh.2.of (HB2.out.block _ hh.2.lt)⟩
        have HBEw2 : Hid (Below wr.heap.size wr w2) := HBE0.out.trans (HB2.out.mono HBE0.out.size)
        refine hK.out _ _ hkw2 (fun hHeld => ?_)
        clear hK K
        try simp only [Act.put, List.setIfInBounds_toArray, List.set_cons_zero, List.set_cons_succ]
        refine wpAnyH_ready (rs := [4, 5]) (by kernel_rfl) (by simp) ?_
        refine AllReadyH.cons (o := { dst := some 10, op := Go.Op.call { callee := Go.Callee.value (Go.Operand.func 97), args := #[Go.Operand.tmp 6, Go.Operand.tmp 9], argTypes := #[87, 87] }, type := 87, pos := "l06_path.go:297", after := #[{ on := 0, ground := Go.Ground.data }, { on := 3, ground := Go.Ground.data }, { on := 3, ground := Go.Ground.chain }], guard := none }) rfl (fun K hK => ?_) ?_
        · have hh : LBlk w2 P3 F ∧ LBlk w2 B f := hHeld
          have hhb : ∀ i, i < 13 → h i < 65536 := fun i hi => by rw [HH.out i hi]; exact thenTo_lt HFB.out 13 (by omega)
          go_simp
          go_wp2_with (go_at_call 97; refine (or_any F h _ HF1.out hhb).mono ?_; rintro e w3 ⟨rfl, HB3⟩)
          have hkw3 : LBlk w3 P3 F ∧ LBlk w3 B f := ⟨hh.1.of (HB3.out.block _ hh.1.lt), hh.2.of (HB3.out.block _ hh.2.lt)⟩
          have HBEw3 : Hid (Below wr.heap.size wr w3) := HBEw2.out.trans (HB3.out.mono HBEw2.out.size)
          refine hK.out _ _ hkw3 (fun hHeld => ?_)
          clear hK K
          try simp only [Act.put, List.setIfInBounds_toArray, List.set_cons_zero, List.set_cons_succ]
          refine wpAnyH_ready (rs := [5]) (by kernel_rfl) (by simp) ?_
          refine AllReadyH.cons (o := { dst := some 4, op := Go.Op.alloc 87, type := 0, pos := "l06_path.go:297", after := #[], guard := none }) rfl (fun K hK => ?_) ?_
          · have hh : LBlk w3 P3 F ∧ LBlk w3 B f := hHeld
            go_simp
            obtain ⟨Q4, HQ4⟩ : ∃ Q4, Hid (Q4 = w3.heap.size) := ⟨_, rfl⟩
            obtain ⟨V, HV⟩ : ∃ V, Hid (V = w3.alloc (.cells #[.int .u16 0, .int .u16 0, .int .u16 0, .int .u16 0, .int .u16 0, .int .u16 0, .int .u16 0, .int .u16 0, .int .u16 0, .int .u16 0, .int .u16 0, .int .u16 0, .int .u16 0] 87)) := ⟨_, rfl⟩
            have HBV : Hid (Below w3.heap.size w3 V) := by rw [HV.out]; exact below1 w3 _
            have HZV : Hid (LBlk V Q4 (fun _ => 0)) := by rw [HV.out]; exact LBlk.zero w3 Q4 HQ4.out _
            have HQL : Hid (wr.heap.size ≤ Q4) := by rw [HQ4.out]; exact HBEw3.out.size
            have hkV : LBlk V P3 F ∧ LBlk V B f := ⟨hh.1.of (HBV.out.block _ hh.1.lt), hh.2.of (HBV.out.block _ hh.2.lt)⟩
            have HBEV : Hid (Below wr.heap.size wr V) := HBEw3.out.trans (HBV.out.mono HBEw3.out.size)
            first | rw [← HV.out] | (rw [show (w3.alloc (.cells #[.int .u16 0, .int .u16 0, .int .u16 0, .int .u16 0, .int .u16 0, .int .u16 0, .int .u16 0, .int .u16 0, .int .u16 0, .int .u16 0, .int .u16 0, .int .u16 0, .int .u16 0] 87)) = V from HV.out.symm])
            try rw [show (w3).heap.size = Q4 from HQ4.out.symm]
            try rw [show (wr.heap.size) = Q4 from HQ4.out.symm]
            refine hK.out _ _ hkV (fun hHeld => ?_)
            clear hK K
            try simp only [Act.put, List.setIfInBounds_toArray, List.set_cons_zero, List.set_cons_succ]
            refine wpAnyH_ready (rs := [6]) (by kernel_rfl) (by simp) ?_
            refine AllReadyH.cons (o := { dst := none, op := Go.Op.store 87 (Go.Operand.tmp 4) (Go.Operand.tmp 10), type := 0, pos := "l06_path.go:297", after := #[{ on := 5, ground := Go.Ground.data }, { on := 4, ground := Go.Ground.data }, { on := 4, ground := Go.Ground.chain }, { on := 0, ground := Go.Ground.phase }, { on := 1, ground := Go.Ground.phase }, { on := 2, ground := Go.Ground.phase }, { on := 3, ground := Go.Ground.phase }, { on := 4, ground := Go.Ground.phase }, { on := 5, ground := Go.Ground.phase }], guard := none }) rfl (fun K hK => ?_) ?_
            · have hh : LBlk V P3 F ∧ LBlk V B f := hHeld
              refine wp_store_midH (by kernel_rfl) 87 _ _ rfl Q4 0 (lcells (orF F h)).toArray rfl rfl (by rw [lcells_size]; exact HZV.out.there) (by rw [lcells_size]; exact info_leads) (lcells_one _) ?_
              have HFIN : Hid (LBlk (V.setCells Q4 0 (lcells (orF F h))) Q4 (orF F h)) := HZV.out.put _
              have HBF : Hid (Below wr.heap.size wr (V.setCells Q4 0 (lcells (orF F h)))) := Below.setCells HQL.out _ _ HBEV.out
              have hkf : LBlk (V.setCells Q4 0 (lcells (orF F h))) P3 F ∧ LBlk (V.setCells Q4 0 (lcells (orF F h))) B f := ⟨hh.1.of (block_setCells (by have := HQL.out; have := HLT.out; omega) _ _ _), hh.2.of (block_setCells (by have := HQL.out; have := HLT.out; omega) _ _ _)⟩
              refine hK.out _ _ hkf (fun hHeld => ?_)
              clear hK K
              try simp only [Act.put]
              refine wpAnyH_done (by kernel_rfl) ?_ _
              go_wp2_with fail
              go_meet
              case rel => exact ⟨Q4, orF F h, rfl, fun i hi => by show F i ||| h i = F i ||| thenF F f i; rw [HH.out i hi], HFIN, HBF⟩
            exact AllReadyH.nil
          exact AllReadyH.nil
        refine AllReadyH.cons (o := { dst := some 4, op := Go.Op.alloc 87, type := 0, pos := "l06_path.go:297", after := #[], guard := none }) rfl (fun K hK => ?_) ?_
        · have hh : LBlk w2 P3 F ∧ LBlk w2 B f := hHeld
          go_simp
          obtain ⟨Q4, HQ4⟩ : ∃ Q4, Hid (Q4 = w2.heap.size) := ⟨_, rfl⟩
          obtain ⟨V, HV⟩ : ∃ V, Hid (V = w2.alloc (.cells #[.int .u16 0, .int .u16 0, .int .u16 0, .int .u16 0, .int .u16 0, .int .u16 0, .int .u16 0, .int .u16 0, .int .u16 0, .int .u16 0, .int .u16 0, .int .u16 0, .int .u16 0] 87)) := ⟨_, rfl⟩
          have HBV : Hid (Below w2.heap.size w2 V) := by rw [HV.out]; exact below1 w2 _
          have HZV : Hid (LBlk V Q4 (fun _ => 0)) := by rw [HV.out]; exact LBlk.zero w2 Q4 HQ4.out _
          have HQL : Hid (wr.heap.size ≤ Q4) := by rw [HQ4.out]; exact HBEw2.out.size
          have hkV : LBlk V P3 F ∧ LBlk V B f := ⟨hh.1.of (HBV.out.block _ hh.1.lt), hh.2.of (HBV.out.block _ hh.2.lt)⟩
          have HBEV : Hid (Below wr.heap.size wr V) := HBEw2.out.trans (HBV.out.mono HBEw2.out.size)
          first | rw [← HV.out] | (rw [show (w2.alloc (.cells #[.int .u16 0, .int .u16 0, .int .u16 0, .int .u16 0, .int .u16 0, .int .u16 0, .int .u16 0, .int .u16 0, .int .u16 0, .int .u16 0, .int .u16 0, .int .u16 0, .int .u16 0] 87)) = V from HV.out.symm])
          try rw [show (w2).heap.size = Q4 from HQ4.out.symm]
          try rw [show (wr.heap.size) = Q4 from HQ4.out.symm]
          refine hK.out _ _ hkV (fun hHeld => ?_)
          clear hK K
          try simp only [Act.put, List.setIfInBounds_toArray, List.set_cons_zero, List.set_cons_succ]
          refine wpAnyH_ready (rs := [4]) (by kernel_rfl) (by simp) ?_
          refine AllReadyH.cons (o := { dst := some 10, op := Go.Op.call { callee := Go.Callee.value (Go.Operand.func 97), args := #[Go.Operand.tmp 6, Go.Operand.tmp 9], argTypes := #[87, 87] }, type := 87, pos := "l06_path.go:297", after := #[{ on := 0, ground := Go.Ground.data }, { on := 3, ground := Go.Ground.data }, { on := 3, ground := Go.Ground.chain }], guard := none }) rfl (fun K hK => ?_) ?_
          · have hh : LBlk V P3 F ∧ LBlk V B f := hHeld
            have hhb : ∀ i, i < 13 → h i < 65536 := fun i hi => by rw [HH.out i hi]; exact thenTo_lt HFB.out 13 (by omega)
            go_simp
            go_wp2_with (go_at_call 97; refine (or_any F h _ HF1.out hhb).mono ?_; rintro e w3 ⟨rfl, HB3⟩)
            have hkw3 : LBlk w3 P3 F ∧ LBlk w3 B f := ⟨hh.1.of (HB3.out.block _ hh.1.lt), hh.2.of (HB3.out.block _ hh.2.lt)⟩
            have HZw3 : Hid (LBlk w3 Q4 (fun _ => 0)) := HZV.out.of (HB3.out.block _ HZV.out.lt)
            have HBEw3 : Hid (Below wr.heap.size wr w3) := HBEV.out.trans (HB3.out.mono HBEV.out.size)
            refine hK.out _ _ hkw3 (fun hHeld => ?_)
            clear hK K
            try simp only [Act.put, List.setIfInBounds_toArray, List.set_cons_zero, List.set_cons_succ]
            refine wpAnyH_ready (rs := [6]) (by kernel_rfl) (by simp) ?_
            refine AllReadyH.cons (o := { dst := none, op := Go.Op.store 87 (Go.Operand.tmp 4) (Go.Operand.tmp 10), type := 0, pos := "l06_path.go:297", after := #[{ on := 5, ground := Go.Ground.data }, { on := 4, ground := Go.Ground.data }, { on := 4, ground := Go.Ground.chain }, { on := 0, ground := Go.Ground.phase }, { on := 1, ground := Go.Ground.phase }, { on := 2, ground := Go.Ground.phase }, { on := 3, ground := Go.Ground.phase }, { on := 4, ground := Go.Ground.phase }, { on := 5, ground := Go.Ground.phase }], guard := none }) rfl (fun K hK => ?_) ?_
            · have hh : LBlk w3 P3 F ∧ LBlk w3 B f := hHeld
              refine wp_store_midH (by kernel_rfl) 87 _ _ rfl Q4 0 (lcells (orF F h)).toArray rfl rfl (by rw [lcells_size]; exact HZw3.out.there) (by rw [lcells_size]; exact info_leads) (lcells_one _) ?_
              have HFIN : Hid (LBlk (w3.setCells Q4 0 (lcells (orF F h))) Q4 (orF F h)) := HZw3.out.put _
              have HBF : Hid (Below wr.heap.size wr (w3.setCells Q4 0 (lcells (orF F h)))) := Below.setCells HQL.out _ _ HBEw3.out
              have hkf : LBlk (w3.setCells Q4 0 (lcells (orF F h))) P3 F ∧ LBlk (w3.setCells Q4 0 (lcells (orF F h))) B f := ⟨hh.1.of (block_setCells (by have := HQL.out; have := HLT.out; omega) _ _ _), hh.2.of (block_setCells (by have := HQL.out; have := HLT.out; omega) _ _ _)⟩
              refine hK.out _ _ hkf (fun hHeld => ?_)
              clear hK K
              try simp only [Act.put]
              refine wpAnyH_done (by kernel_rfl) ?_ _
              go_wp2_with fail
              go_meet
              case rel => exact ⟨Q4, orF F h, rfl, fun i hi => by show F i ||| h i = F i ||| thenF F f i; rw [HH.out i hi], HFIN, HBF⟩
            exact AllReadyH.nil
          exact AllReadyH.nil
        exact AllReadyH.nil
      refine AllReadyH.cons (o := { dst := some 4, op := Go.Op.alloc 87, type := 0, pos := "l06_path.go:297", after := #[], guard := none }) rfl (fun K hK => ?_) ?_
      · have hh : LBlk wr.drew P3 F ∧ LBlk wr.drew B f := hHeld
        go_simp
        obtain ⟨Q4, HQ4⟩ : ∃ Q4, Hid (Q4 = wr.drew.heap.size) := ⟨_, rfl⟩
        obtain ⟨V, HV⟩ : ∃ V, Hid (V = (wr.alloc (.cells #[.int .u16 0, .int .u16 0, .int .u16 0, .int .u16 0, .int .u16 0, .int .u16 0, .int .u16 0, .int .u16 0, .int .u16 0, .int .u16 0, .int .u16 0, .int .u16 0, .int .u16 0] 87)).drew) := ⟨_, rfl⟩
        have HBV : Hid (Below wr.drew.heap.size wr.drew V) := by rw [HV.out]; exact below1 wr.drew _
        have HZV : Hid (LBlk V Q4 (fun _ => 0)) := by rw [HV.out]; exact LBlk.zero wr.drew Q4 HQ4.out _
        have HQL : Hid (wr.heap.size ≤ Q4) := by rw [HQ4.out]; exact HBE0.out.size
        have hkV : LBlk V P3 F ∧ LBlk V B f := ⟨hh.1.of (HBV.out.block _ hh.1.lt), hh.2.of (HBV.out.block _ hh.2.lt)⟩
        have HBEV : Hid (Below wr.heap.size wr V) := HBE0.out.trans (HBV.out.mono HBE0.out.size)
        first | rw [← HV.out] | (rw [show ((wr.alloc (.cells #[.int .u16 0, .int .u16 0, .int .u16 0, .int .u16 0, .int .u16 0, .int .u16 0, .int .u16 0, .int .u16 0, .int .u16 0, .int .u16 0, .int .u16 0, .int .u16 0, .int .u16 0] 87)).drew) = V from HV.out.symm])
        try rw [show (wr.drew).heap.size = Q4 from HQ4.out.symm]
        try rw [show (wr.heap.size) = Q4 from HQ4.out.symm]
        refine hK.out _ _ hkV (fun hHeld => ?_)
        clear hK K
        try simp only [Act.put, List.setIfInBounds_toArray, List.set_cons_zero, List.set_cons_succ]
        refine wpAnyH_ready (rs := [3]) (by kernel_rfl) (by simp) ?_
        refine AllReadyH.cons (o := { dst := some 9, op := Go.Op.call { callee := Go.Callee.value (Go.Operand.func 96), args := #[Go.Operand.tmp 7, Go.Operand.tmp 8], argTypes := #[87, 87] }, type := 87, pos := "l06_path.go:297", after := #[{ on := 1, ground := Go.Ground.data }, { on := 2, ground := Go.Ground.data }], guard := none }) rfl (fun K hK => ?_) ?_
        · have hh : LBlk V P3 F ∧ LBlk V B f := hHeld
          go_simp
          go_wp2_with (go_at_call 96; refine (HCT.out _).mono ?_; rintro e w2 ⟨⟨h, rfl, HH⟩, HB2⟩)
          have hkw2 : LBlk w2 P3 F ∧ LBlk w2 B f := ⟨hh.1.of (HB2.out.block _ hh.1.lt), hh.2.of (HB2.out.block _ hh.2.lt)⟩
          have HZw2 : Hid (LBlk w2 Q4 (fun _ => 0)) := HZV.out.of (HB2.out.block _ HZV.out.lt)
          have HBEw2 : Hid (Below wr.heap.size wr w2) := HBEV.out.trans (HB2.out.mono HBEV.out.size)
          refine hK.out _ _ hkw2 (fun hHeld => ?_)
          clear hK K
          try simp only [Act.put, List.setIfInBounds_toArray, List.set_cons_zero, List.set_cons_succ]
          refine wpAnyH_ready (rs := [4]) (by kernel_rfl) (by simp) ?_
          refine AllReadyH.cons (o := { dst := some 10, op := Go.Op.call { callee := Go.Callee.value (Go.Operand.func 97), args := #[Go.Operand.tmp 6, Go.Operand.tmp 9], argTypes := #[87, 87] }, type := 87, pos := "l06_path.go:297", after := #[{ on := 0, ground := Go.Ground.data }, { on := 3, ground := Go.Ground.data }, { on := 3, ground := Go.Ground.chain }], guard := none }) rfl (fun K hK => ?_) ?_
          · have hh : LBlk w2 P3 F ∧ LBlk w2 B f := hHeld
            have hhb : ∀ i, i < 13 → h i < 65536 := fun i hi => by rw [HH.out i hi]; exact thenTo_lt HFB.out 13 (by omega)
            go_simp
            go_wp2_with (go_at_call 97; refine (or_any F h _ HF1.out hhb).mono ?_; rintro e w3 ⟨rfl, HB3⟩)
            have hkw3 : LBlk w3 P3 F ∧ LBlk w3 B f := ⟨hh.1.of (HB3.out.block _ hh.1.lt), hh.2.of (HB3.out.block _ hh.2.lt)⟩
            have HZw3 : Hid (LBlk w3 Q4 (fun _ => 0)) := HZw2.out.of (HB3.out.block _ HZw2.out.lt)
            have HBEw3 : Hid (Below wr.heap.size wr w3) := HBEw2.out.trans (HB3.out.mono HBEw2.out.size)
            refine hK.out _ _ hkw3 (fun hHeld => ?_)
            clear hK K
            try simp only [Act.put, List.setIfInBounds_toArray, List.set_cons_zero, List.set_cons_succ]
            refine wpAnyH_ready (rs := [6]) (by kernel_rfl) (by simp) ?_
            refine AllReadyH.cons (o := { dst := none, op := Go.Op.store 87 (Go.Operand.tmp 4) (Go.Operand.tmp 10), type := 0, pos := "l06_path.go:297", after := #[{ on := 5, ground := Go.Ground.data }, { on := 4, ground := Go.Ground.data }, { on := 4, ground := Go.Ground.chain }, { on := 0, ground := Go.Ground.phase }, { on := 1, ground := Go.Ground.phase }, { on := 2, ground := Go.Ground.phase }, { on := 3, ground := Go.Ground.phase }, { on := 4, ground := Go.Ground.phase }, { on := 5, ground := Go.Ground.phase }], guard := none }) rfl (fun K hK => ?_) ?_
            · have hh : LBlk w3 P3 F ∧ LBlk w3 B f := hHeld
              refine wp_store_midH (by kernel_rfl) 87 _ _ rfl Q4 0 (lcells (orF F h)).toArray rfl rfl (by rw [lcells_size]; exact HZw3.out.there) (by rw [lcells_size]; exact info_leads) (lcells_one _) ?_
              have HFIN : Hid (LBlk (w3.setCells Q4 0 (lcells (orF F h))) Q4 (orF F h)) := HZw3.out.put _
              have HBF : Hid (Below wr.heap.size wr (w3.setCells Q4 0 (lcells (orF F h)))) := Below.setCells HQL.out _ _ HBEw3.out
              have hkf : LBlk (w3.setCells Q4 0 (lcells (orF F h))) P3 F ∧ LBlk (w3.setCells Q4 0 (lcells (orF F h))) B f := ⟨hh.1.of (block_setCells (by have := HQL.out; have := HLT.out; omega) _ _ _), hh.2.of (block_setCells (by have := HQL.out; have := HLT.out; omega) _ _ _)⟩
              refine hK.out _ _ hkf (fun hHeld => ?_)
              clear hK K
              try simp only [Act.put]
              refine wpAnyH_done (by kernel_rfl) ?_ _
              go_wp2_with fail
              go_meet
              case rel => exact ⟨Q4, orF F h, rfl, fun i hi => by show F i ||| h i = F i ||| thenF F f i; rw [HH.out i hi], HFIN, HBF⟩
            exact AllReadyH.nil
          exact AllReadyH.nil
        exact AllReadyH.nil
      exact AllReadyH.nil
    case rest =>
      obtain ⟨Q4, G, rfl, HG, HXG, HBG⟩ := hcut
      have HXF2 : Hid (LBlk wc P3 F) := HXF.out.of (HBG.out.block _ HXF.out.lt)
      have HXB2 : Hid (LBlk wc B f) := HXB.out.of (HBG.out.block _ HXB.out.lt)
      have HXR2 : Hid (LBlk wc (B + 1) (fun _ => 0)) := HXR.out.of (HBG.out.block _ HXR.out.lt)
      have HBE2 : Hid (Below w.heap.size w wc) := HBE.out.trans (HBG.out.mono HBE.out.size)
      have HPL2 : Hid (P3 < wc.heap.size) := HXF2.out.lt
      obtain ⟨q, HQ⟩ : ∃ q, Hid (q = ((List.range 13).all fun i => G i == F i)) := ⟨_, rfl⟩
      have heq := eql_leads G F wc
      rw [← HQ.out] at heq
      obtain ⟨cF, HCF⟩ : ∃ cF, Hid (cF = (lcells F).toArray) := ⟨_, rfl⟩
      obtain ⟨cG, HCG⟩ : ∃ cG, Hid (cG = (lcells G).toArray) := ⟨_, rfl⟩
      unfold lv at heq
      rw [← HCF.out, ← HCG.out] at heq
      have hcF : cF.size = 13 := by rw [HCF.out]; exact lcells_size F
      have hcG : cG.size = 13 := by rw [HCG.out]; exact lcells_size G
      have lG : wpLoads Q4 cG wc := ⟨lcells G, HCG.out, HXG.out.range, lcells_len G⟩
      have lF : wpLoads P3 cF wc := ⟨lcells F, HCF.out, HXF2.out.range, lcells_len F⟩
      go_upto_if 13 with (first | (refine wpList_load_leads Q4 cG rfl rfl rfl lG ?_) | (refine wpList_load_leads P3 cF rfl rfl rfl lF ?_))
      rcases Bool.eq_false_or_eq_true q with hq | hq
      · subst hq
        have HEQ : Hid (∀ i, i < 13 → orF F (thenF F f) i = F i) := fun i hi => by rw [← HG.out i hi]; exact all_leads.1 HQ.out.symm i hi
        have HFIN : Hid (Rep n F (starR n K)) := HAG.out.done hn HR.out HEQ.out
        have hthere := HXR2.out.there
        rw [← hcF] at hthere
        go_wp2_with (first | (refine wpList_load_leads P3 cF rfl rfl rfl lF ?_) | (refine wpList_store_mid rfl 87 _ _ rfl (B + 1) 0 cF rfl rfl hthere (by rw [hcF]; exact info_leads) (by rw [HCF.out]; exact lcells_one _) ?_))
        have HLB : Hid (LBlk (wc.setCells (B + 1) 0 cF.toList) (B + 1) F) := by rw [HCF.out]; exact HXR2.out.put F
        refine bodyPost_ret (results_row (by exact Try.results98) rfl (load_leads HLB.out)) rfl ?_
        exact ⟨⟨F, rfl, HFIN, HF1⟩, Below.setCells (by have := HB.out; omega) _ _ HBE2.out⟩
      · subst hq
        have HNE : Hid (∃ v, v < 13 ∧ orF F (thenF F f) v ≠ F v) := by
          have h1 : ¬ ∀ i, i < 13 → G i = F i := fun h => by rw [all_leads.2 h] at HQ; exact absurd HQ.out (by decide)
          obtain ⟨v, hv⟩ := Classical.not_forall.1 h1
          obtain ⟨hv1, hv2⟩ := Classical.not_imp.1 hv
          exact ⟨v, hv1, by rw [← HG.out v hv1]; exact hv2⟩
        have HGB : Hid (∀ i, i < 13 → G i < 65536) := fun i hi => by rw [HG.out i hi]; exact or_lt (HF1.out i hi) (thenTo_lt HFB.out 13 (by omega))
        have hthere := HXF2.out.there
        rw [← hcG] at hthere
        go_wp2_with (first | (refine wpList_load_leads Q4 cG rfl rfl rfl lG ?_) | (refine wpList_store_mid rfl 87 _ _ rfl P3 0 cG rfl rfl hthere (by rw [hcG]; exact info_leads) (by rw [HCG.out]; exact lcells_one _) ?_))
        have HNB : Hid (LBlk (wc.setCells P3 0 cG.toList) P3 G) := by rw [HCG.out]; exact HXF2.out.put G
        simp only [Act.put, List.setIfInBounds_toArray, List.set_cons_zero, List.set_cons_succ]
        go_roundw
        case rel => exact ⟨G, HNB, HGB, (HAG.out.step HR.out).congr hn HG.out, HXB2.out.of (block_setCells (by have := HLT.out; omega) _ _ _), HXR2.out.of (block_setCells (by have := HLT.out; omega) _ _ _), Below.setCells (by have := HLT.out; have := HB.out; omega) _ _ HBE2.out, by show _ < _; rw [size_setCells]; exact HPL2.out⟩
        case measure =>
          have e1 : sumF (rdF wr P3) = sumF F := sumF_congr fun i hi => HXF.out.rd hi
          have e2 : sumF (rdF (wc.setCells P3 0 cG.toList) P3) = sumF (orF F (thenF F f)) := by
            rw [← sumF_congr HG.out]; exact sumF_congr fun i hi => HNB.out.rd hi
          have h3 : sumF F < sumF (orF F (thenF F f)) := sumF_lt (fun v => or_ge _ _) HNE.out
          have h4 : sumF (orF F (thenF F f)) ≤ 851968 := by rw [← sumF_congr HG.out]; exact sumF_le' HGB.out
          show 851968 - sumF (rdF (wc.setCells P3 0 cG.toList) P3) < 851968 - sumF (rdF wr P3)
          rw [e1, e2]; omega
end Go.Proofs.Ytdbogikcmfnpdaa
