import Derived.Test.YtbepmeipjdpipaaGreatJo09
import Derived.Test.YtbepmeipjdpipaaGreatJo03
import Derived.Deep.RegionHeld3
import Derived.Deep.MidRow
namespace Go.Proofs.YtbepmeipjdpipaaGreat
open Go.RowKit
def k3 (x y z : Value) : Nat → Value := fun i => if i = 0 then x else if i = 1 then y else z
theorem k3_range {w : World} {b : Nat} {x y z : Value} (h : Blk w b 3 (k3 x y z)) : w.rangeAt b 0 [x, y, z] := by
 intro j v hj
 rcases j with _ | _ | _ | j
 ·obtain rfl : x = v := by simpa using hj
  exact h.cell (i := 0) (by omega)
 ·obtain rfl : y = v := by simpa using hj
  exact h.cell (i := 1) (by omega)
 ·obtain rfl : z = v := by simpa using hj
  exact h.cell (i := 2) (by omega)
 ·simp at hj
theorem k3_put {w : World} {b : Nat} {x y z : Value} (h : Blk w b 3 (k3 x y z)) (x' y' z' : Value) : Blk (w.setCells b 0 [x', y', z']) b 3 (k3 x' y' z') :=
 (((h.set 0 (by omega) x').set 1 (by omega) y').set 2 (by omega) z').congr fun i hi => by rcases (show i = 0 ∨ i = 1 ∨ i = 2 by omega) with h | h | h <;> subst h <;> rfl
theorem info_look : (Tryz.prog.info? 104).map (·.size) = some 3 := by kernel_rfl
theorem load_look {w : World} {b : Nat} {x y z : Value} (h : Blk w b 3 (k3 x y z)) : (loadVar 104 ⟨b, 0, none⟩).run Tryz.prog w = .ok (.agg #[x, y, z]) w :=
 run_loadVar_mid w b 0 104 [x, y, z] _ (k3_range h) Tryz.underlying104 rfl info_look
theorem res_look {P : Program} {F : Func} {tmps : Array Value} {w : World} {k t b : Nat} {v : Value} (hr : F.results = #[.cell k t]) (hk : tmps[k]? = some (.pointer (some ⟨b, 0, none⟩))) (hl : (loadVar t ⟨b, 0, none⟩).run P w = .ok v w) : (results F tmps).run P w = .ok v w := by
 have e : (#[ResultVar.cell k t] : Array ResultVar) = [ResultVar.cell k t].toArray := rfl
 simp [results, hr, hk, asAddr, hl]
def lbV (lb : List Int) : List Value := lb.map fun x => .int .u8 x
theorem lbV_snoc (lb : List Int) (x : Int) : lbV (lb ++ [x]) = lbV lb ++ [.int .u8 x] := by simp [lbV]
structure Mk (M : Nat) (w : World) (pv lv : Value) (s : MkS) (aa : Option Addr) (an ac : Nat) : Prop where
 blk : Blk w M 4 (mkC pv lv (.slice aa an ac) s.bad)
 len : s.ar.length = an
 arc : EdgesIn (M + 1) w.heap.size w aa s.ar
 off : ∀ b o, aa = some ⟨b, o, none⟩ → M + 1 ≤ b ∧ b < w.heap.size ∧ ¬ lv.ownBlock = some b
 lab : w.ownsRow (M + 1) 5 1 lv s.lb.length (lbV s.lb)
structure Rw (H : Nat) (w : World) (v lv : Value) (l : List Int) : Prop where
 own : w.ownsRow H 3 1 v l.length (rowCells l)
 off : ∀ b, v.ownBlock = some b → ¬ lv.ownBlock = some b
def NewB (H : Nat) (lv lv' : Value) : Prop := lv'.ownBlock = lv.ownBlock ∨ ∀ b, lv'.ownBlock = some b → H ≤ b
def LookPost (M : Nat) (w : World) (pv lv : Value) (a0 : Option Addr) (r : MkS × Lk) (e : Ending) (w' : World) : Prop :=
 ∃ (lv' : Value) (aa : Option Addr) (an ac : Nat) (fv gv : Value), e = .returned (.agg #[fv, gv, .bool r.2.nl]) ∧ Hid (NewOr w.heap.size w'.heap.size a0 aa) ∧ Hid (∀ b o, aa = some ⟨b, o, none⟩ → ¬ fv.ownBlock = some b ∧ ¬ gv.ownBlock = some b) ∧ Hid (Mk M w' pv lv' r.1 aa an ac) ∧ Hid (Rw w.heap.size w' fv lv' r.2.fi) ∧ Hid (Rw w.heap.size w' gv lv' r.2.la) ∧ Hid (∀ b, fv.ownBlock = some b → ¬ gv.ownBlock = some b) ∧ Hid (KeptP (fun c => c = M ∨ lv.ownBlock = some c) w w') ∧ Hid (NewB w.heap.size lv lv')
theorem info5s : (Tryz.prog.info? 5).map (fun i => (i.zero, i.size, i.bytes)) = some (some (.int .u8 0), 1, 1) := by kernel_rfl
theorem own_one (w : World) (g H : Nat) (hg : g = w.heap.size) (hH : H ≤ g) (x : Int) : (w.alloc (.cells #[.int .i64 x] 3)).ownsRow H 3 1 (.slice (some ⟨g, 0, none⟩) 1 1) 1 (rowCells [x]) := by
 subst hg
 exact World.ownsRow_lit w #[.int .i64 x] 1 hH (by unfold maxLen; omega) rfl
theorem owns_keptP {w w' : World} {B e s n : Nat} {v : Value} {xs : List Value} {p : Nat → Prop} (h : w.ownsRow B e s v n xs) (hb : KeptP p w w') (hp : ∀ c, v.ownBlock = some c → ¬ p c) : w'.ownsRow B e s v n xs := by
 refine ⟨h.1, ?_⟩
 rcases h.2 with h5 | ⟨g, cap, cur, e, h5, h6, h7⟩
 ·exact .inl h5
 ·exact .inr ⟨g, cap, cur, e, h5, by rw [hb.block g (Array.getElem?_eq_some_iff.1 h6).1 (hp g (by rw [e]; rfl))]; exact h6, h7⟩
theorem owns_base {w : World} {B B' e s n : Nat} {v : Value} {xs : List Value} (h : w.ownsRow B e s v n xs) (hB : B' ≤ B) : w.ownsRow B' e s v n xs := by
 refine ⟨h.1, ?_⟩
 rcases h.2 with h | ⟨g, cap, cur, e, hg, h⟩
 ·exact .inl h
 ·exact .inr ⟨g, cap, cur, e, Nat.le_trans hB hg, h⟩
theorem arcs_kept {lo hi : Nat} {p : Nat → Prop} {w w' : World} {a : Option Addr} {l : List Ed} (h : EdgesIn lo hi w a l) (hk : KeptP p w w') (hh : hi ≤ w.heap.size) (hp : ∀ b o, a = some ⟨b, o, none⟩ → ¬ p b) : EdgesIn lo hi w' a l := by
 rcases h with h | ⟨b, o, e, h1, h2, h3⟩
 ·exact .inl h
 ·exact (EdgesIn.kept (lo := b) (hi := b + 1) (.inr ⟨b, o, e, Nat.le_refl _, Nat.lt_succ_self _, h3⟩) hk (by omega) (fun k k1 k2 => (show b = k by omega) ▸ hp b o e)).wide h1 h2
theorem kp_refl (p : Nat → Prop) (w : World) : KeptP p w w := ⟨rfl, rfl, rfl, Nat.le_refl _, fun _ _ _ => rfl⟩
theorem kp_set (w : World) (b j : Nat) (u : Value) : KeptP (fun c => c = b) w (w.setCell ⟨b, j, none⟩ u) := KeptP.setCell (p := fun c => c = b) (g := b) (kp_refl _ w) rfl u
theorem kp_set3 (w : World) (b : Nat) (x y z : Value) : KeptP (fun c => c = b) w (w.setCells b 0 [x, y, z]) := KeptP.setCell (p := fun c => c = b) (g := b) (KeptP.setCell (p := fun c => c = b) (g := b) (kp_set w b 0 x) rfl y) rfl z
theorem bl_set3 (w : World) (b : Nat) (x y z : Value) (h : b < w.heap.size) : Below b w (w.setCells b 0 [x, y, z]) := (kp_set3 w b x y z).to_below (by omega) (fun k e => by have e2 : k = b := e; omega)
theorem KeptP.more {p : Nat → Prop} {B : Nat} {w w1 w2 : World} (h : KeptP p w w1) (hb : Below B w1 w2) (hB : w.heap.size ≤ B) : KeptP p w w2 :=
 ⟨hb.os.trans h.os, hb.tape.trans h.tape, hb.output.trans h.output, Nat.le_trans h.size hb.size, fun k hk hn => (hb.block k (Nat.lt_of_lt_of_le hk hB)).trans (h.block k hk hn)⟩
set_option maxHeartbeats 1000000 in
set_option maxRecDepth 100000 in
theorem look_step (lo hi M z : Nat) (b : Option Addr) (m mc : Nat) (ps : List Pc) (lv : Value) (s : MkS) (aa : Option Addr) (an ac : Nat) (w : World) (ha : PathIn lo hi w b ps) (hh : hi ≤ M) (hn : ps.length = m) (hz : z < m) (hop : (pat ps z).1 = 1) (hmk : Mk M w (.slice b m mc) lv s aa an ac) (hlen : s.lb.length < 24) (hb : s.bad = false) :
  Calls Tryz.prog 58 #[.pointer (some ⟨M, 0, none⟩), .int .i64 (z : Int)] w (LookPost M w (.slice b m mc) lv aa ({ s with lb := s.lb ++ [(pat ps z).2.1], bad := decide (24 ≤ s.lb.length + 1) }, ⟨[((s.lb.length + 1 : Nat) : Int)], [((s.lb.length + 1 : Nat) : Int)], false⟩)) := by
 obtain ⟨i5, hi5, hz50, hz51, hz52⟩ := info_parts info5s
 obtain ⟨bb, oo, rfl, _, hbh, p0, p1, ra, rc, p2, hrow⟩ := ha.piece (k := z) (by rw [hn]; exact hz)
 obtain ⟨x, HX⟩ : ∃ x, Hid (x = pat ps z) := ⟨_, rfl⟩
 rw [← HX.out] at p0 p1 p2 hop ⊢
 obtain ⟨x0, x1, ks⟩ := x
 dsimp only at p0 p1 p2 hop ⊢
 subst hop
 obtain ⟨q, HQL⟩ : ∃ q, Hid (ks.length = q) := ⟨_, rfl⟩
 rw [HQL.out] at p2
 obtain ⟨la, lc, rfl, _⟩ := own_shape hmk.lab
 have HMK : Hid (Mk M w (.slice (some ⟨bb, oo, none⟩) m mc) (.slice la s.lb.length lc) s aa an ac) := hmk
 obtain ⟨lb, ar, bd⟩ := s
 dsimp only at hlen hb ⊢
 subst hb
 dsimp only at HMK
 obtain ⟨ln, HLN⟩ : ∃ n, Hid (n = lb.length) := ⟨_, rfl⟩
 rw [← HLN.out] at HMK hlen
 rw [← HLN.out]
 obtain ⟨R, HR⟩ : ∃ R, Hid (R = w.heap.size) := ⟨_, rfl⟩
 obtain ⟨W, HW⟩ : ∃ W, Hid (W = ((w.alloc (.cells #[.slice none 0 0, .slice none 0 0, .bool false] 104)).alloc (.cells #[.int .i64 1, .int .u8 x1, .slice ra q rc] 127)).alloc (.cells #[.slice none 0 0, .slice none 0 0, .bool false] 104)) := ⟨_, rfl⟩
 have HBW : Hid (Below w.heap.size w W) := by rw [HW.out]; exact below3 w _ _ _
 have HSW : Hid (W.heap.size = R + 3) := by rw [HW.out, HR.out]; show _ = _; simp
 have HRB : Hid (Blk W R 3 (k3 (.slice none 0 0) (.slice none 0 0) (.bool false))) := by rw [HW.out]; exact ((blk_three w R HR.out _ _ _ _).alloc _).alloc _
 have HXB : Hid (Blk W (R + 1) 3 (k3 (.int .i64 1) (.int .u8 x1) (.slice ra q rc))) := by rw [HW.out]; exact (blk_three _ (R + 1) (by rw [HR.out]; simp) _ _ _ _).alloc _
 have HM : Hid (M < R ∧ bb < M) := ⟨by rw [HR.out]; exact hmk.blk.lt, by omega⟩
 have HMB : Hid (Blk W M 4 (mkC (.slice (some ⟨bb, oo, none⟩) m mc) (.slice la ln lc) (.slice aa an ac) false)) := HMK.out.blk.of_block (HBW.out.block _ HMK.out.blk.lt)
 have HLW : Hid (W.ownsRow (M + 1) 5 1 (.slice la ln lc) ln (lbV lb)) := own_below (by have h := HMK.out.lab; dsimp only at h; rw [← HLN.out] at h; exact h) HBW.out
 have hz0 : (0 : Int) ≤ (z : Int) := by omega
 have hz1 : (z : Int) < (m : Int) := by omega
 have hm0 : w.cell? ⟨M, 0, none⟩ = some (.slice (some ⟨bb, oo, none⟩) m mc) := HMK.out.blk.cell (i := 0) (by omega)
 have g0 := cell_below p0 (below1 w (.cells #[.slice none 0 0, .slice none 0 0, .bool false] 104)) (by have := HM.out; have := HR.out; omega)
 have g1 := cell_below p1 (below1 w (.cells #[.slice none 0 0, .slice none 0 0, .bool false] 104)) (by have := HM.out; have := HR.out; omega)
 have g2 := cell_below p2 (below1 w (.cells #[.slice none 0 0, .slice none 0 0, .bool false] 104)) (by have := HM.out; have := HR.out; omega)
 have g3 := cell_below hm0 (below1 w (.cells #[.slice none 0 0, .slice none 0 0, .bool false] 104)) (by have := HM.out; have := HR.out; omega)
 have HCX : Hid (∀ v, Below (R + 3) W v → v.cell? ⟨M, 1, none⟩ = some (.slice la ln lc) ∧ v.cell? ⟨R + 1, 1, none⟩ = some (.int .u8 x1)) := fun v h => by
  have h1 := HMB.out.of_block (h.block _ (by have := HM.out; omega))
  have h2 := HXB.out.of_block (h.block _ (by omega))
  exact ⟨h1.cell (i := 1) (by omega), h2.cell (i := 1) (by omega)⟩
 have HLTR : Hid (∀ c, (Value.slice la ln lc).ownBlock = some c → M + 1 ≤ c ∧ c < R) := fun c h => by have h1 := HMK.out.lab.lt c h; rw [HR.out]; exact h1
 clear ha hh hn hrow hmk p0 p1 p2 hm0 hbh
 go_enter Tryz.func58, Tryz.ntmps58
 obtain ⟨FF, HFF⟩ : ∃ F : Func, Hid (F = Tryz.f58) := ⟨_, rfl⟩
 rw [← HFF.out]
 go_upto_region 3 with fail
 rw [← HR.out]
 first | rw [← HW.out] | (rw [show _ = W from HW.out.symm])
 clear HW g0 g1 g2 g3
 have c0 : W.cell? ⟨R + 1, 0, none⟩ = some (.int .i64 1) := HXB.out.cell (i := 0) (by omega)
 go_upto_region 4 with fail
 clear c0
 obtain ⟨V, HV⟩ : ∃ V, Hid (V = W.drew) := ⟨_, rfl⟩
 have HBD : Hid (Below (R + 3) W V) := by rw [HV.out]; exact (Below.refl _ _).drew
 obtain ⟨d1, d2⟩ := HCX.out _ HBD.out
 have HVS : Hid (V.heap.size = R + 3) := by show _ = _; rw [HV.out, ← HSW.out]; rfl
 have HB5 : Hid (Below (R + 3) W (V.alloc (.cells #[.int .u8 x1] 5))) := HBD.out.alloc (by rw [HVS.out]; exact Nat.le_refl _) _
 obtain ⟨f1, f2⟩ := HCX.out _ HB5.out
 have HOWN : Hid ((V.alloc (.cells #[.int .u8 x1] 5)).ownsRow (M + 1) 5 1 (.slice la ln lc) ln (lbV lb)) := (own_below HLW.out (by rw [HSW.out]; exact HBD.out)).alloc _
 have hbase : M + 1 ≤ (V.alloc (.cells #[.int .u8 x1] 5)).heap.size := by have := HB5.out.size; have := HSW.out; have := HM.out; omega
 refine wp_region_held_drew (S := fun v => v.cell? ⟨R + 1, 1, none⟩ = some (.int .u8 x1)) (by kernel_rfl) (by rw [← HV.out]; exact d2) (fun hHeld => ?_)
 rw [← HV.out]
 refine wpAnyH_take (i := 0) (oi := { dst := some 22, op := Op.move (.tmp 0), type := 99, pos := "l07_nfa.go:98", after := #[], guard := none }) (v := ?_) rfl (by kernel_rfl) (by kernel_rfl) (by kernel_rfl) (fun _ _ _ h => h) (Or.inl ⟨by kernel_rfl, ?_⟩) (by assumption) ?_
 rotate_left
 ·intro w hSw; (try dsimp only at hSw); go_simp; try with_reducible rfl
 simp only [Act.put, List.setIfInBounds_toArray, List.set_cons_zero, List.set_cons_succ]
 refine wpAnyH_take (i := 1) (oi := { dst := some 23, op := Op.move (.tmp 0), type := 99, pos := "l07_nfa.go:98", after := #[], guard := none }) (v := ?_) rfl (by kernel_rfl) (by kernel_rfl) (by kernel_rfl) (fun _ _ _ h => h) (Or.inl ⟨by kernel_rfl, ?_⟩) (by assumption) ?_
 rotate_left
 ·intro w hSw; (try dsimp only at hSw); go_simp; try with_reducible rfl
 simp only [Act.put, List.setIfInBounds_toArray, List.set_cons_zero, List.set_cons_succ]
 refine wpAnyH_take (i := 2) (oi := { dst := some 24, op := Op.nilCheck (.tmp 23), type := 0, pos := "l07_nfa.go:98", after := #[{ on := 1, ground := .data }], guard := none }) (v := ?_) rfl (by kernel_rfl) (by kernel_rfl) (by kernel_rfl) (fun _ _ _ h => h) (Or.inl ⟨by kernel_rfl, ?_⟩) (by assumption) ?_
 rotate_left
 ·intro w hSw; (try dsimp only at hSw); go_simp; try with_reducible rfl
 simp only [Act.put, List.setIfInBounds_toArray, List.set_cons_zero, List.set_cons_succ]
 refine wpAnyH_take (i := 3) (oi := { dst := some 25, op := Op.fieldAddr 102 (.tmp 24) 1, type := 0, pos := "l07_nfa.go:98", after := #[{ on := 2, ground := .data }], guard := none }) (v := ?_) rfl (by kernel_rfl) (by kernel_rfl) (by kernel_rfl) (fun _ _ _ h => h) (Or.inl ⟨by kernel_rfl, ?_⟩) (by assumption) ?_
 rotate_left
 ·intro w hSw; (try dsimp only at hSw); go_simp; try with_reducible rfl
 simp only [Act.put, List.setIfInBounds_toArray, List.set_cons_zero, List.set_cons_succ]
 refine wpAnyH_take (i := 5) (oi := { dst := some 27, op := Op.fieldAddr 127 (.tmp 5) 1, type := 0, pos := "l07_nfa.go:98", after := #[], guard := none }) (v := ?_) rfl (by kernel_rfl) (by kernel_rfl) (by kernel_rfl) (fun _ _ _ h => h) (Or.inl ⟨by kernel_rfl, ?_⟩) (by assumption) ?_
 rotate_left
 ·intro w hSw; (try dsimp only at hSw); go_simp; try with_reducible rfl
 simp only [Act.put, List.setIfInBounds_toArray, List.set_cons_zero, List.set_cons_succ]
 refine wpAnyH_take (i := 6) (oi := { dst := some 28, op := Op.load 5 (.tmp 27), type := 5, pos := "l07_nfa.go:98", after := #[{ on := 5, ground := .data }], guard := none }) (v := ?_) rfl (by kernel_rfl) (by kernel_rfl) (by kernel_rfl) (fun _ _ _ h => h) (Or.inl ⟨by kernel_rfl, ?_⟩) (by assumption) ?_
 rotate_left
 ·intro w hSw; (try dsimp only at hSw); go_simp; try with_reducible rfl
 simp only [Act.put, List.setIfInBounds_toArray, List.set_cons_zero, List.set_cons_succ]
 refine wpAnyH_ready (rs := [4, 7]) (by kernel_rfl) (by simp) ?_
 refine AllReadyH.cons (o := { dst := some 26, op := Op.load 100 (.tmp 25), type := 100, pos := "l07_nfa.go:98", after := #[{ on := 3, ground := .data }], guard := none }) rfl (fun K hK => ?_) ?_
 ·go_simp
  refine hK.out _ _ d2 (fun hHeld => ?_)
  clear hK K
  try simp only [Act.put, List.setIfInBounds_toArray, List.set_cons_zero, List.set_cons_succ]
  refine wpAnyH_ready (rs := [7]) (by kernel_rfl) (by simp) ?_
  refine AllReadyH.cons (o := { dst := some 29, op := Op.buildSlice 100 1 #[(0, .tmp 28)], type := 100, pos := "l07_nfa.go:98", after := #[{ on := 6, ground := .data }], guard := none }) rfl (fun K hK => ?_) ?_
  ·go_simp
   refine hK.out _ _ f2 (fun hHeld => ?_)
   clear hK K
   try simp only [Act.put, List.setIfInBounds_toArray, List.set_cons_zero, List.set_cons_succ]
   refine wpAnyH_ready (rs := [8]) (by kernel_rfl) (by simp) ?_
   refine AllReadyH.cons (o := { dst := some 30, op := Op.call { callee := Callee.builtin Builtin.append, args := #[.tmp 26, .tmp 29], argTypes := #[100, 100] }, type := 100, pos := "l07_nfa.go:98", after := #[{ on := 4, ground := .data }, { on := 7, ground := .data }], guard := none }) rfl (fun K hK => ?_) ?_
   ·refine step_append_lies _ rfl (.tmp 26) (.tmp 29) 100 rfl (M + 1) 5 i5 (.int .u8 0) 1 1 Tryz.underlying100 hi5 hz50 hz51 hz52 rfl (by decide) (.slice la ln lc) ln (lbV lb) rfl HOWN.out ⟨V.heap.size, 0, none⟩ 1 1 [.int .u8 x1] rfl rfl (news_new1 V (.int .u8 x1) 5) (by simp [Value.oneCell']) (by decide) (by unfold maxLen; omega) (by omega) hbase _ rfl ?_
    intro g5 cap5 w6 hown5 hgrow5 hloc5 hg5
    have hlt9 := HOWN.out.lt
    have HLT : Hid (∀ c, (Value.slice la ln lc).ownBlock = some c → M + 1 ≤ c ∧ c < R) := HLTR.out
    have HK6 : Hid (KeptP (fun c => (Value.slice la ln lc).ownBlock = some c) (V.alloc (.cells #[.int .u8 x1] 5)) w6) := ⟨hgrow5.os, hgrow5.tape, hgrow5.output, hgrow5.size, fun k hk hn => hgrow5.block k hk (fun e => hn e.symm)⟩
    have HMB6 : Hid (Blk w6 M 4 (mkC (.slice (some ⟨bb, oo, none⟩) m mc) (.slice la ln lc) (.slice aa an ac) false)) := HK6.out.blk (HMB.out.of_block (HB5.out.block _ (by have := HM.out; omega))) (fun h => by have := HLT.out M h; omega)
    have HRB6 : Hid (Blk w6 R 3 (k3 (.slice none 0 0) (.slice none 0 0) (.bool false))) := HK6.out.blk (HRB.out.of_block (HB5.out.block _ (by omega))) (fun h => by have := HLT.out R h; omega)
    have g1 : w6.cell? ⟨M, 1, none⟩ = some (.slice la ln lc) := HMB6.out.cell (i := 1) (by omega)
    have g2 := HK6.out.cell f2 (lt_of_cell f2) (fun h => by have := HLT.out _ h; omega)
    refine hK.out _ _ g2 (fun hHeld => ?_)
    clear hK K
    try simp only [Act.put, List.setIfInBounds_toArray, List.set_cons_zero, List.set_cons_succ]
    refine wpAnyH_take (i := 9) (oi := { dst := some 31, op := Op.nilCheck (.tmp 22), type := 0, pos := "l07_nfa.go:98", after := #[{ on := 0, ground := .data }, { on := 0, ground := .phase }, { on := 1, ground := .phase }, { on := 2, ground := .phase }, { on := 3, ground := .phase }, { on := 4, ground := .phase }, { on := 5, ground := .phase }, { on := 6, ground := .phase }, { on := 7, ground := .phase }, { on := 8, ground := .phase }], guard := none }) (v := ?_) rfl (by kernel_rfl) (by kernel_rfl) (by kernel_rfl) (fun _ _ _ h => h) (Or.inl ⟨by kernel_rfl, ?_⟩) (by assumption) ?_
    rotate_left
    ·intro w hSw; (try dsimp only at hSw); go_simp; try with_reducible rfl
    simp only [Act.put, List.setIfInBounds_toArray, List.set_cons_zero, List.set_cons_succ]
    refine wpAnyH_take (i := 10) (oi := { dst := some 32, op := Op.fieldAddr 102 (.tmp 31) 1, type := 0, pos := "l07_nfa.go:98", after := #[{ on := 9, ground := .data }, { on := 0, ground := .phase }, { on := 1, ground := .phase }, { on := 2, ground := .phase }, { on := 3, ground := .phase }, { on := 4, ground := .phase }, { on := 5, ground := .phase }, { on := 6, ground := .phase }, { on := 7, ground := .phase }, { on := 8, ground := .phase }], guard := none }) (v := ?_) rfl (by kernel_rfl) (by kernel_rfl) (by kernel_rfl) (fun _ _ _ h => h) (Or.inl ⟨by kernel_rfl, ?_⟩) (by assumption) ?_
    rotate_left
    ·intro w hSw; (try dsimp only at hSw); go_simp; try with_reducible rfl
    simp only [Act.put, List.setIfInBounds_toArray, List.set_cons_zero, List.set_cons_succ]
    refine wpAnyH_ready (rs := [11]) (by kernel_rfl) (by simp) ?_
    refine AllReadyH.cons (o := { dst := none, op := Op.store 100 (.tmp 32) (.tmp 30), type := 0, pos := "l07_nfa.go:98", after := #[{ on := 10, ground := .data }, { on := 8, ground := .data }, { on := 8, ground := .chain }, { on := 0, ground := .phase }, { on := 1, ground := .phase }, { on := 2, ground := .phase }, { on := 3, ground := .phase }, { on := 4, ground := .phase }, { on := 5, ground := .phase }, { on := 6, ground := .phase }, { on := 7, ground := .phase }, { on := 8, ground := .phase }], guard := none }) rfl (fun K hK => ?_) ?_
    ·have hf6 := HMB6.out.frozen 1
     have hne : R + 1 ≠ M := by have := HM.out; omega
     have s9 := fun (u : Value) => cell_set (c := M) (j := 1) g2 u hne
     clear hne
     go_simp
     refine hK.out _ _ (s9 _) (fun hHeld => ?_)
     clear hK K
     try simp only [Act.put, List.setIfInBounds_toArray, List.set_cons_zero, List.set_cons_succ]
     refine wpAnyH_done (by kernel_rfl) ?_ _
     clear hHeld s9 hf6 g1 g2
     obtain ⟨X5, HX5⟩ : ∃ x, Hid (x = w6.setCell ⟨M, 1, none⟩ (.slice (some ⟨g5, 0, none⟩) (ln + 1) cap5)) := ⟨_, rfl⟩
     have HMB7 : Hid (Blk X5 M 4 (mkC (.slice (some ⟨bb, oo, none⟩) m mc) (.slice (some ⟨g5, 0, none⟩) (ln + 1) cap5) (.slice aa an ac) false)) := by rw [HX5.out]; exact (HMB6.out.set 1 (by omega) _).congr (fun i hi => by rcases (show i = 0 ∨ i = 1 ∨ i = 2 ∨ i = 3 by omega) with h | h | h | h <;> subst h <;> rfl)
     have HBX5 : Hid (Below M w6 X5) := by rw [HX5.out]; exact (Below.refl M _).setCell (Nat.le_refl _) _
     have HKX5 : Hid (KeptP (fun c => c = M) w6 X5) := by rw [HX5.out]; exact kp_set _ _ _ _
     have HRB7 : Hid (Blk X5 R 3 (k3 (.slice none 0 0) (.slice none 0 0) (.bool false))) := HKX5.out.blk HRB6.out (by have := HM.out; omega)
     have HLB7 : Hid (X5.ownsRow (M + 1) 5 1 (.slice (some ⟨g5, 0, none⟩) (ln + 1) cap5) (ln + 1) (lbV (lb ++ [x1]))) := by rw [lbV_snoc, HX5.out]; exact owns_set hown5 (by omega)
     have HK7 : Hid (KeptP (fun c => c = M ∨ (Value.slice la ln lc).ownBlock = some c) w X5) := by
      have k1 : KeptP (fun c => c = M ∨ (Value.slice la ln lc).ownBlock = some c) w (V.alloc (.cells #[.int .u8 x1] 5)) := KeptP.of_below (HBW.out.trans (HB5.out.mono (by have := HR.out; omega))) (fun _ h _ => h)
      have k2 : KeptP (fun c => c = M ∨ (Value.slice la ln lc).ownBlock = some c) (V.alloc (.cells #[.int .u8 x1] 5)) w6 := ⟨HK6.out.os, HK6.out.tape, HK6.out.output, HK6.out.size, fun k hk hn => HK6.out.block k hk (fun e => hn (.inr e))⟩
      rw [HX5.out]
      exact (k1.trans k2).setCell (.inl rfl) _
     have HLOC : Hid ((Value.slice la ln lc).ownBlock = some g5 ∨ R + 3 ≤ g5) := hloc5.imp id (fun h => by have h1 := HB5.out.size; have h2 := HSW.out; omega)
     have HS7 : Hid (R + 3 ≤ X5.heap.size) := by have h1 := HB5.out.size; have h2 := HSW.out; have h3 := HK6.out.size; have h4 := HBX5.out.size; show _ ≤ _; omega
     rw [show w6.setCell ⟨M, 1, none⟩ (.slice (some ⟨g5, 0, none⟩) (ln + 1) cap5) = X5 from HX5.out.symm]
     clear HX5 HBX5 HKX5 hown5 hgrow5 hloc5 hg5 hlt9 HMB6 HRB6 HK6 HOWN hbase f1 f2 d1 d2
     have c1 : X5.cell? ⟨M, 1, none⟩ = some (.slice (some ⟨g5, 0, none⟩) (ln + 1) cap5) := HMB7.out.cell (i := 1) (by omega)
     by_cases h24 : 24 ≤ ln + 1
     ·have h24b : (ln : Int) + 1 ≥ 24 := by omega
      have h24c : (24 : Int) ≤ (ln : Int) + 1 := by omega
      rw [show decide (24 ≤ ln + 1) = true from decide_eq_true h24]
      have c3 : X5.cell? ⟨M, 3, none⟩ = some (.bool false) := HMB7.out.cell (i := 3) (by omega)
      have hf3 := HMB7.out.frozen 3
      go_upto_region 8 with fail
      obtain ⟨Y, HY⟩ : ∃ x, Hid (x = X5.setCell ⟨M, 3, none⟩ (.bool true)) := ⟨_, rfl⟩
      have HMBY : Hid (Blk Y M 4 (mkC (.slice (some ⟨bb, oo, none⟩) m mc) (.slice (some ⟨g5, 0, none⟩) (ln + 1) cap5) (.slice aa an ac) true)) := by rw [HY.out]; exact (HMB7.out.set 3 (by omega) _).congr (fun i hi => by rcases (show i = 0 ∨ i = 1 ∨ i = 2 ∨ i = 3 by omega) with h | h | h | h <;> subst h <;> rfl)
      have HKY0 : Hid (KeptP (fun c => c = M) X5 Y) := by rw [HY.out]; exact kp_set _ _ _ _
      have HRBY : Hid (Blk Y R 3 (k3 (.slice none 0 0) (.slice none 0 0) (.bool false))) := HKY0.out.blk HRB7.out (by have := HM.out; omega)
      have HLBY : Hid (Y.ownsRow (M + 1) 5 1 (.slice (some ⟨g5, 0, none⟩) (ln + 1) cap5) (ln + 1) (lbV (lb ++ [x1]))) := by rw [HY.out]; exact owns_set HLB7.out (by omega)
      have HKY : Hid (KeptP (fun c => c = M ∨ (Value.slice la ln lc).ownBlock = some c) w Y) := by rw [HY.out]; exact HK7.out.setCell (.inl rfl) _
      have HSY : Hid (R + 3 ≤ Y.heap.size) := Nat.le_trans HS7.out HKY0.out.size
      rw [show X5.setCell ⟨M, 3, none⟩ (.bool true) = Y from HY.out.symm]
      clear HY c1 c3 hf3 HKY0
      have HBZ0 : Hid (Below R ((Y.alloc (.cells #[.int .i64 ((ln : Int) + 1)] 3)).alloc (.cells #[.int .i64 ((ln : Int) + 1)] 3)) (((Y.alloc (.cells #[.int .i64 ((ln : Int) + 1)] 3)).alloc (.cells #[.int .i64 ((ln : Int) + 1)] 3)).setCells R 0 [.slice (some ⟨Y.heap.size, 0, none⟩) 1 1, .slice (some ⟨Y.heap.size + 1, 0, none⟩) 1 1, .bool false])) := bl_set3 _ R _ _ _ (by have := HSY.out; simp; omega)
      have HRBZ : Hid (Blk ((Y.alloc (.cells #[.int .i64 ((ln : Int) + 1)] 3)).alloc (.cells #[.int .i64 ((ln : Int) + 1)] 3)) R 3 (k3 (.slice none 0 0) (.slice none 0 0) (.bool false))) := (HRBY.out.alloc _).alloc _
      have HKZ0 : Hid (KeptP (fun c => c = R) ((Y.alloc (.cells #[.int .i64 ((ln : Int) + 1)] 3)).alloc (.cells #[.int .i64 ((ln : Int) + 1)] 3)) (((Y.alloc (.cells #[.int .i64 ((ln : Int) + 1)] 3)).alloc (.cells #[.int .i64 ((ln : Int) + 1)] 3)).setCells R 0 [.slice (some ⟨Y.heap.size, 0, none⟩) 1 1, .slice (some ⟨Y.heap.size + 1, 0, none⟩) 1 1, .bool false])) := kp_set3 _ R _ _ _
      have HF1 : Hid (((Y.alloc (.cells #[.int .i64 ((ln : Int) + 1)] 3)).alloc (.cells #[.int .i64 ((ln : Int) + 1)] 3)).ownsRow w.heap.size 3 1 (.slice (some ⟨Y.heap.size, 0, none⟩) 1 1) 1 (rowCells [((ln + 1 : Nat) : Int)])) := (own_one Y Y.heap.size w.heap.size rfl (by have := HSY.out; have := HR.out; omega) ((ln : Int) + 1)).alloc _
      have HF2 : Hid (((Y.alloc (.cells #[.int .i64 ((ln : Int) + 1)] 3)).alloc (.cells #[.int .i64 ((ln : Int) + 1)] 3)).ownsRow w.heap.size 3 1 (.slice (some ⟨Y.heap.size + 1, 0, none⟩) 1 1) 1 (rowCells [((ln + 1 : Nat) : Int)])) := own_one _ (Y.heap.size + 1) w.heap.size (by simp) (by have := HSY.out; have := HR.out; omega) ((ln : Int) + 1)
      have HKZ : Hid (KeptP (fun c => c = M ∨ (Value.slice la ln lc).ownBlock = some c) w (((Y.alloc (.cells #[.int .i64 ((ln : Int) + 1)] 3)).alloc (.cells #[.int .i64 ((ln : Int) + 1)] 3)).setCells R 0 [.slice (some ⟨Y.heap.size, 0, none⟩) 1 1, .slice (some ⟨Y.heap.size + 1, 0, none⟩) 1 1, .bool false])) := (HKY.out.more (((Below.refl R _).alloc (by have := HSY.out; omega) _).alloc (by have := HSY.out; simp; omega) _) (by rw [HR.out]; exact Nat.le_refl _)).more HBZ0.out (by rw [HR.out]; exact Nat.le_refl _)
      have HLBZ : Hid (((Y.alloc (.cells #[.int .i64 ((ln : Int) + 1)] 3)).alloc (.cells #[.int .i64 ((ln : Int) + 1)] 3)).ownsRow (M + 1) 5 1 (.slice (some ⟨g5, 0, none⟩) (ln + 1) cap5) (ln + 1) (lbV (lb ++ [x1]))) := (HLBY.out.alloc _).alloc _
      have HG5 : Hid (g5 ≠ R ∧ g5 < Y.heap.size) := ⟨by rcases HLOC.out with h | h; have := HLTR.out _ h; omega; omega, (HLBY.out.lt g5 rfl).2⟩
      have HMZ : Hid (Blk (((Y.alloc (.cells #[.int .i64 ((ln : Int) + 1)] 3)).alloc (.cells #[.int .i64 ((ln : Int) + 1)] 3)).setCells R 0 [.slice (some ⟨Y.heap.size, 0, none⟩) 1 1, .slice (some ⟨Y.heap.size + 1, 0, none⟩) 1 1, .bool false]) M 4 (mkC (.slice (some ⟨bb, oo, none⟩) m mc) (.slice (some ⟨g5, 0, none⟩) (ln + 1) cap5) (.slice aa an ac) true)) := ((HMBY.out.alloc _).alloc _).of_block (HBZ0.out.block _ HM.out.1)
      have b1 := HRBZ.out.set 0 (by omega) (.slice (some ⟨Y.heap.size, 0, none⟩) 1 1)
      have b2 := b1.set 1 (by omega) (.slice (some ⟨Y.heap.size + 1, 0, none⟩) 1 1)
      have q0 : ((Y.alloc (.cells #[.int .i64 ((ln : Int) + 1)] 3)).alloc (.cells #[.int .i64 ((ln : Int) + 1)] 3)).cell? ⟨R, 0, none⟩ = some (.slice none 0 0) := HRBZ.out.cell (i := 0) (by omega)
      have q1 : (((Y.alloc (.cells #[.int .i64 ((ln : Int) + 1)] 3)).alloc (.cells #[.int .i64 ((ln : Int) + 1)] 3)).setCell ⟨R, 0, none⟩ (.slice (some ⟨Y.heap.size, 0, none⟩) 1 1)).cell? ⟨R, 1, none⟩ = some (.slice none 0 0) := b1.cell (i := 1) (by omega)
      have q2 : ((((Y.alloc (.cells #[.int .i64 ((ln : Int) + 1)] 3)).alloc (.cells #[.int .i64 ((ln : Int) + 1)] 3)).setCell ⟨R, 0, none⟩ (.slice (some ⟨Y.heap.size, 0, none⟩) 1 1)).setCell ⟨R, 1, none⟩ (.slice (some ⟨Y.heap.size + 1, 0, none⟩) 1 1)).cell? ⟨R, 2, none⟩ = some (.bool false) := b2.cell (i := 2) (by omega)
      have q3 := HRBZ.out.frozen 0
      have q4 := b1.frozen 1
      have q5 := b2.frozen 2
      clear b1 b2
      go_wp2_with fail
      obtain rfl : FF = Tryz.f58 := HFF.out
      refine bodyPost_ret (res_look (k := 4) (t := 104) (b := R) Tryz.results58 rfl (load_look (k3_put HRBZ.out _ _ _))) rfl ?_
      refine ⟨.slice (some ⟨g5, 0, none⟩) (ln + 1) cap5, aa, an, ac, .slice (some ⟨Y.heap.size, 0, none⟩) 1 1, .slice (some ⟨Y.heap.size + 1, 0, none⟩) 1 1, rfl, NewOr.refl _ _ _, ?_, ?_, ?_, ?_, ?_, HKZ, ?_⟩
      ·intro b o e
       have h3 := HMK.out.off b o e
       have h5 := HSY.out
       have h6 := HR.out
       exact ⟨fun h => by have h2 : Y.heap.size = b := (by simpa [Value.ownBlock] using h); omega, fun h => by have h2 : Y.heap.size + 1 = b := (by simpa [Value.ownBlock] using h); omega⟩
      ·refine Mk.mk HMZ.out HMK.out.len ?_ ?_ ?_
       ·exact (arcs_kept HMK.out.arc HKZ.out (Nat.le_refl _) (fun b o e h => by have h3 := HMK.out.off b o e; rcases h with h | h; omega; exact h3.2.2 h)).wide (Nat.le_refl _) HKZ.out.size
       ·intro b o e
        have h3 := HMK.out.off b o e
        refine ⟨h3.1, Nat.lt_of_lt_of_le h3.2.1 HKZ.out.size, fun h => ?_⟩
        have h2 : g5 = b := by simpa [Value.ownBlock] using h
        rcases HLOC.out with h4 | h4
        ·rw [h2] at h4; exact h3.2.2 h4
        ·have := HR.out; omega
       ·show World.ownsRow _ _ _ _ _ (lb ++ [x1]).length _
        rw [show (lb ++ [x1]).length = ln + 1 by rw [List.length_append, HLN.out]; rfl]
        exact owns_keptP HLBZ.out HKZ0.out (fun c h e => HG5.out.1 ((show g5 = c by simpa [Value.ownBlock] using h).trans e))
      ·refine Rw.mk (owns_keptP HF1.out HKZ0.out (fun c h e => by have h2 : Y.heap.size = c := (by simpa [Value.ownBlock] using h); have e2 : c = R := e; have := HSY.out; omega)) ?_
       intro b h1 h2
       have h3 : Y.heap.size = b := by simpa [Value.ownBlock] using h1
       have h4 : g5 = b := by simpa [Value.ownBlock] using h2
       have := HG5.out.2; omega
      ·refine Rw.mk (owns_keptP HF2.out HKZ0.out (fun c h e => by have h2 : Y.heap.size + 1 = c := (by simpa [Value.ownBlock] using h); have e2 : c = R := e; have := HSY.out; omega)) ?_
       intro b h1 h2
       have h3 : Y.heap.size + 1 = b := by simpa [Value.ownBlock] using h1
       have h4 : g5 = b := by simpa [Value.ownBlock] using h2
       have := HG5.out.2; omega
      ·intro b h1 h2
       have h3 : Y.heap.size = b := by simpa [Value.ownBlock] using h1
       have h4 : Y.heap.size + 1 = b := by simpa [Value.ownBlock] using h2
       omega
      ·rcases HLOC.out with h | h
       ·exact .inl (by rw [h]; rfl)
       ·exact .inr fun b h1 => by have h2 : g5 = b := (by simpa [Value.ownBlock] using h1); have := HR.out; omega
     ·have h24b : ¬ (ln : Int) + 1 ≥ 24 := by omega
      have h24c : ¬ (24 : Int) ≤ (ln : Int) + 1 := by omega
      rw [show decide (24 ≤ ln + 1) = false from decide_eq_false h24]
      go_upto_region 8 with fail
      clear c1
      obtain ⟨Y, HY⟩ : ∃ x, Hid (x = X5) := ⟨_, rfl⟩
      rw [← HY.out] at HMB7 HRB7 HLB7 HK7 HS7
      rw [show X5 = Y from HY.out.symm]
      have HMBY := HMB7
      have HRBY := HRB7
      have HLBY := HLB7
      have HKY := HK7
      have HSY := HS7
      have HBZ0 : Hid (Below R ((Y.alloc (.cells #[.int .i64 ((ln : Int) + 1)] 3)).alloc (.cells #[.int .i64 ((ln : Int) + 1)] 3)) (((Y.alloc (.cells #[.int .i64 ((ln : Int) + 1)] 3)).alloc (.cells #[.int .i64 ((ln : Int) + 1)] 3)).setCells R 0 [.slice (some ⟨Y.heap.size, 0, none⟩) 1 1, .slice (some ⟨Y.heap.size + 1, 0, none⟩) 1 1, .bool false])) := bl_set3 _ R _ _ _ (by have := HSY.out; simp; omega)
      have HRBZ : Hid (Blk ((Y.alloc (.cells #[.int .i64 ((ln : Int) + 1)] 3)).alloc (.cells #[.int .i64 ((ln : Int) + 1)] 3)) R 3 (k3 (.slice none 0 0) (.slice none 0 0) (.bool false))) := (HRBY.out.alloc _).alloc _
      have HKZ0 : Hid (KeptP (fun c => c = R) ((Y.alloc (.cells #[.int .i64 ((ln : Int) + 1)] 3)).alloc (.cells #[.int .i64 ((ln : Int) + 1)] 3)) (((Y.alloc (.cells #[.int .i64 ((ln : Int) + 1)] 3)).alloc (.cells #[.int .i64 ((ln : Int) + 1)] 3)).setCells R 0 [.slice (some ⟨Y.heap.size, 0, none⟩) 1 1, .slice (some ⟨Y.heap.size + 1, 0, none⟩) 1 1, .bool false])) := kp_set3 _ R _ _ _
      have HF1 : Hid (((Y.alloc (.cells #[.int .i64 ((ln : Int) + 1)] 3)).alloc (.cells #[.int .i64 ((ln : Int) + 1)] 3)).ownsRow w.heap.size 3 1 (.slice (some ⟨Y.heap.size, 0, none⟩) 1 1) 1 (rowCells [((ln + 1 : Nat) : Int)])) := (own_one Y Y.heap.size w.heap.size rfl (by have := HSY.out; have := HR.out; omega) ((ln : Int) + 1)).alloc _
      have HF2 : Hid (((Y.alloc (.cells #[.int .i64 ((ln : Int) + 1)] 3)).alloc (.cells #[.int .i64 ((ln : Int) + 1)] 3)).ownsRow w.heap.size 3 1 (.slice (some ⟨Y.heap.size + 1, 0, none⟩) 1 1) 1 (rowCells [((ln + 1 : Nat) : Int)])) := own_one _ (Y.heap.size + 1) w.heap.size (by simp) (by have := HSY.out; have := HR.out; omega) ((ln : Int) + 1)
      have HKZ : Hid (KeptP (fun c => c = M ∨ (Value.slice la ln lc).ownBlock = some c) w (((Y.alloc (.cells #[.int .i64 ((ln : Int) + 1)] 3)).alloc (.cells #[.int .i64 ((ln : Int) + 1)] 3)).setCells R 0 [.slice (some ⟨Y.heap.size, 0, none⟩) 1 1, .slice (some ⟨Y.heap.size + 1, 0, none⟩) 1 1, .bool false])) := (HKY.out.more (((Below.refl R _).alloc (by have := HSY.out; omega) _).alloc (by have := HSY.out; simp; omega) _) (by rw [HR.out]; exact Nat.le_refl _)).more HBZ0.out (by rw [HR.out]; exact Nat.le_refl _)
      have HLBZ : Hid (((Y.alloc (.cells #[.int .i64 ((ln : Int) + 1)] 3)).alloc (.cells #[.int .i64 ((ln : Int) + 1)] 3)).ownsRow (M + 1) 5 1 (.slice (some ⟨g5, 0, none⟩) (ln + 1) cap5) (ln + 1) (lbV (lb ++ [x1]))) := (HLBY.out.alloc _).alloc _
      have HG5 : Hid (g5 ≠ R ∧ g5 < Y.heap.size) := ⟨by rcases HLOC.out with h | h; have := HLTR.out _ h; omega; omega, (HLBY.out.lt g5 rfl).2⟩
      have HMZ : Hid (Blk (((Y.alloc (.cells #[.int .i64 ((ln : Int) + 1)] 3)).alloc (.cells #[.int .i64 ((ln : Int) + 1)] 3)).setCells R 0 [.slice (some ⟨Y.heap.size, 0, none⟩) 1 1, .slice (some ⟨Y.heap.size + 1, 0, none⟩) 1 1, .bool false]) M 4 (mkC (.slice (some ⟨bb, oo, none⟩) m mc) (.slice (some ⟨g5, 0, none⟩) (ln + 1) cap5) (.slice aa an ac) false)) := ((HMBY.out.alloc _).alloc _).of_block (HBZ0.out.block _ HM.out.1)
      have b1 := HRBZ.out.set 0 (by omega) (.slice (some ⟨Y.heap.size, 0, none⟩) 1 1)
      have b2 := b1.set 1 (by omega) (.slice (some ⟨Y.heap.size + 1, 0, none⟩) 1 1)
      have q0 : ((Y.alloc (.cells #[.int .i64 ((ln : Int) + 1)] 3)).alloc (.cells #[.int .i64 ((ln : Int) + 1)] 3)).cell? ⟨R, 0, none⟩ = some (.slice none 0 0) := HRBZ.out.cell (i := 0) (by omega)
      have q1 : (((Y.alloc (.cells #[.int .i64 ((ln : Int) + 1)] 3)).alloc (.cells #[.int .i64 ((ln : Int) + 1)] 3)).setCell ⟨R, 0, none⟩ (.slice (some ⟨Y.heap.size, 0, none⟩) 1 1)).cell? ⟨R, 1, none⟩ = some (.slice none 0 0) := b1.cell (i := 1) (by omega)
      have q2 : ((((Y.alloc (.cells #[.int .i64 ((ln : Int) + 1)] 3)).alloc (.cells #[.int .i64 ((ln : Int) + 1)] 3)).setCell ⟨R, 0, none⟩ (.slice (some ⟨Y.heap.size, 0, none⟩) 1 1)).setCell ⟨R, 1, none⟩ (.slice (some ⟨Y.heap.size + 1, 0, none⟩) 1 1)).cell? ⟨R, 2, none⟩ = some (.bool false) := b2.cell (i := 2) (by omega)
      have q3 := HRBZ.out.frozen 0
      have q4 := b1.frozen 1
      have q5 := b2.frozen 2
      clear b1 b2
      go_wp2_with fail
      obtain rfl : FF = Tryz.f58 := HFF.out
      refine bodyPost_ret (res_look (k := 4) (t := 104) (b := R) Tryz.results58 rfl (load_look (k3_put HRBZ.out _ _ _))) rfl ?_
      refine ⟨.slice (some ⟨g5, 0, none⟩) (ln + 1) cap5, aa, an, ac, .slice (some ⟨Y.heap.size, 0, none⟩) 1 1, .slice (some ⟨Y.heap.size + 1, 0, none⟩) 1 1, rfl, NewOr.refl _ _ _, ?_, ?_, ?_, ?_, ?_, HKZ, ?_⟩
      ·intro b o e
       have h3 := HMK.out.off b o e
       have h5 := HSY.out
       have h6 := HR.out
       exact ⟨fun h => by have h2 : Y.heap.size = b := (by simpa [Value.ownBlock] using h); omega, fun h => by have h2 : Y.heap.size + 1 = b := (by simpa [Value.ownBlock] using h); omega⟩
      ·refine Mk.mk HMZ.out HMK.out.len ?_ ?_ ?_
       ·exact (arcs_kept HMK.out.arc HKZ.out (Nat.le_refl _) (fun b o e h => by have h3 := HMK.out.off b o e; rcases h with h | h; omega; exact h3.2.2 h)).wide (Nat.le_refl _) HKZ.out.size
       ·intro b o e
        have h3 := HMK.out.off b o e
        refine ⟨h3.1, Nat.lt_of_lt_of_le h3.2.1 HKZ.out.size, fun h => ?_⟩
        have h2 : g5 = b := by simpa [Value.ownBlock] using h
        rcases HLOC.out with h4 | h4
        ·rw [h2] at h4; exact h3.2.2 h4
        ·have := HR.out; omega
       ·show World.ownsRow _ _ _ _ _ (lb ++ [x1]).length _
        rw [show (lb ++ [x1]).length = ln + 1 by rw [List.length_append, HLN.out]; rfl]
        exact owns_keptP HLBZ.out HKZ0.out (fun c h e => HG5.out.1 ((show g5 = c by simpa [Value.ownBlock] using h).trans e))
      ·refine Rw.mk (owns_keptP HF1.out HKZ0.out (fun c h e => by have h2 : Y.heap.size = c := (by simpa [Value.ownBlock] using h); have e2 : c = R := e; have := HSY.out; omega)) ?_
       intro b h1 h2
       have h3 : Y.heap.size = b := by simpa [Value.ownBlock] using h1
       have h4 : g5 = b := by simpa [Value.ownBlock] using h2
       have := HG5.out.2; omega
      ·refine Rw.mk (owns_keptP HF2.out HKZ0.out (fun c h e => by have h2 : Y.heap.size + 1 = c := (by simpa [Value.ownBlock] using h); have e2 : c = R := e; have := HSY.out; omega)) ?_
       intro b h1 h2
       have h3 : Y.heap.size + 1 = b := by simpa [Value.ownBlock] using h1
       have h4 : g5 = b := by simpa [Value.ownBlock] using h2
       have := HG5.out.2; omega
      ·intro b h1 h2
       have h3 : Y.heap.size = b := by simpa [Value.ownBlock] using h1
       have h4 : Y.heap.size + 1 = b := by simpa [Value.ownBlock] using h2
       omega
      ·rcases HLOC.out with h | h
       ·exact .inl (by rw [h]; rfl)
       ·exact .inr fun b h1 => by have h2 : g5 = b := (by simpa [Value.ownBlock] using h1); have := HR.out; omega
    exact AllReadyH.nil
   exact AllReadyH.nil
  exact AllReadyH.nil
 refine AllReadyH.cons (o := { dst := some 29, op := Op.buildSlice 100 1 #[(0, .tmp 28)], type := 100, pos := "l07_nfa.go:98", after := #[{ on := 6, ground := .data }], guard := none }) rfl (fun K hK => ?_) ?_
 ·go_simp
  refine hK.out _ _ f2 (fun hHeld => ?_)
  clear hK K
  try simp only [Act.put, List.setIfInBounds_toArray, List.set_cons_zero, List.set_cons_succ]
  refine wpAnyH_ready (rs := [4]) (by kernel_rfl) (by simp) ?_
  refine AllReadyH.cons (o := { dst := some 26, op := Op.load 100 (.tmp 25), type := 100, pos := "l07_nfa.go:98", after := #[{ on := 3, ground := .data }], guard := none }) rfl (fun K hK => ?_) ?_
  ·go_simp
   refine hK.out _ _ f2 (fun hHeld => ?_)
   clear hK K
   try simp only [Act.put, List.setIfInBounds_toArray, List.set_cons_zero, List.set_cons_succ]
   refine wpAnyH_ready (rs := [8]) (by kernel_rfl) (by simp) ?_
   refine AllReadyH.cons (o := { dst := some 30, op := Op.call { callee := Callee.builtin Builtin.append, args := #[.tmp 26, .tmp 29], argTypes := #[100, 100] }, type := 100, pos := "l07_nfa.go:98", after := #[{ on := 4, ground := .data }, { on := 7, ground := .data }], guard := none }) rfl (fun K hK => ?_) ?_
   ·refine step_append_lies _ rfl (.tmp 26) (.tmp 29) 100 rfl (M + 1) 5 i5 (.int .u8 0) 1 1 Tryz.underlying100 hi5 hz50 hz51 hz52 rfl (by decide) (.slice la ln lc) ln (lbV lb) rfl HOWN.out ⟨V.heap.size, 0, none⟩ 1 1 [.int .u8 x1] rfl rfl (news_new1 V (.int .u8 x1) 5) (by simp [Value.oneCell']) (by decide) (by unfold maxLen; omega) (by omega) hbase _ rfl ?_
    intro g5 cap5 w6 hown5 hgrow5 hloc5 hg5
    have hlt9 := HOWN.out.lt
    have HLT : Hid (∀ c, (Value.slice la ln lc).ownBlock = some c → M + 1 ≤ c ∧ c < R) := HLTR.out
    have HK6 : Hid (KeptP (fun c => (Value.slice la ln lc).ownBlock = some c) (V.alloc (.cells #[.int .u8 x1] 5)) w6) := ⟨hgrow5.os, hgrow5.tape, hgrow5.output, hgrow5.size, fun k hk hn => hgrow5.block k hk (fun e => hn e.symm)⟩
    have HMB6 : Hid (Blk w6 M 4 (mkC (.slice (some ⟨bb, oo, none⟩) m mc) (.slice la ln lc) (.slice aa an ac) false)) := HK6.out.blk (HMB.out.of_block (HB5.out.block _ (by have := HM.out; omega))) (fun h => by have := HLT.out M h; omega)
    have HRB6 : Hid (Blk w6 R 3 (k3 (.slice none 0 0) (.slice none 0 0) (.bool false))) := HK6.out.blk (HRB.out.of_block (HB5.out.block _ (by omega))) (fun h => by have := HLT.out R h; omega)
    have g1 : w6.cell? ⟨M, 1, none⟩ = some (.slice la ln lc) := HMB6.out.cell (i := 1) (by omega)
    have g2 := HK6.out.cell f2 (lt_of_cell f2) (fun h => by have := HLT.out _ h; omega)
    refine hK.out _ _ g2 (fun hHeld => ?_)
    clear hK K
    try simp only [Act.put, List.setIfInBounds_toArray, List.set_cons_zero, List.set_cons_succ]
    refine wpAnyH_take (i := 9) (oi := { dst := some 31, op := Op.nilCheck (.tmp 22), type := 0, pos := "l07_nfa.go:98", after := #[{ on := 0, ground := .data }, { on := 0, ground := .phase }, { on := 1, ground := .phase }, { on := 2, ground := .phase }, { on := 3, ground := .phase }, { on := 4, ground := .phase }, { on := 5, ground := .phase }, { on := 6, ground := .phase }, { on := 7, ground := .phase }, { on := 8, ground := .phase }], guard := none }) (v := ?_) rfl (by kernel_rfl) (by kernel_rfl) (by kernel_rfl) (fun _ _ _ h => h) (Or.inl ⟨by kernel_rfl, ?_⟩) (by assumption) ?_
    rotate_left
    ·intro w hSw; (try dsimp only at hSw); go_simp; try with_reducible rfl
    simp only [Act.put, List.setIfInBounds_toArray, List.set_cons_zero, List.set_cons_succ]
    refine wpAnyH_take (i := 10) (oi := { dst := some 32, op := Op.fieldAddr 102 (.tmp 31) 1, type := 0, pos := "l07_nfa.go:98", after := #[{ on := 9, ground := .data }, { on := 0, ground := .phase }, { on := 1, ground := .phase }, { on := 2, ground := .phase }, { on := 3, ground := .phase }, { on := 4, ground := .phase }, { on := 5, ground := .phase }, { on := 6, ground := .phase }, { on := 7, ground := .phase }, { on := 8, ground := .phase }], guard := none }) (v := ?_) rfl (by kernel_rfl) (by kernel_rfl) (by kernel_rfl) (fun _ _ _ h => h) (Or.inl ⟨by kernel_rfl, ?_⟩) (by assumption) ?_
    rotate_left
    ·intro w hSw; (try dsimp only at hSw); go_simp; try with_reducible rfl
    simp only [Act.put, List.setIfInBounds_toArray, List.set_cons_zero, List.set_cons_succ]
    refine wpAnyH_ready (rs := [11]) (by kernel_rfl) (by simp) ?_
    refine AllReadyH.cons (o := { dst := none, op := Op.store 100 (.tmp 32) (.tmp 30), type := 0, pos := "l07_nfa.go:98", after := #[{ on := 10, ground := .data }, { on := 8, ground := .data }, { on := 8, ground := .chain }, { on := 0, ground := .phase }, { on := 1, ground := .phase }, { on := 2, ground := .phase }, { on := 3, ground := .phase }, { on := 4, ground := .phase }, { on := 5, ground := .phase }, { on := 6, ground := .phase }, { on := 7, ground := .phase }, { on := 8, ground := .phase }], guard := none }) rfl (fun K hK => ?_) ?_
    ·have hf6 := HMB6.out.frozen 1
     have hne : R + 1 ≠ M := by have := HM.out; omega
     have s9 := fun (u : Value) => cell_set (c := M) (j := 1) g2 u hne
     clear hne
     go_simp
     refine hK.out _ _ (s9 _) (fun hHeld => ?_)
     clear hK K
     try simp only [Act.put, List.setIfInBounds_toArray, List.set_cons_zero, List.set_cons_succ]
     refine wpAnyH_done (by kernel_rfl) ?_ _
     clear hHeld s9 hf6 g1 g2
     obtain ⟨X5, HX5⟩ : ∃ x, Hid (x = w6.setCell ⟨M, 1, none⟩ (.slice (some ⟨g5, 0, none⟩) (ln + 1) cap5)) := ⟨_, rfl⟩
     have HMB7 : Hid (Blk X5 M 4 (mkC (.slice (some ⟨bb, oo, none⟩) m mc) (.slice (some ⟨g5, 0, none⟩) (ln + 1) cap5) (.slice aa an ac) false)) := by rw [HX5.out]; exact (HMB6.out.set 1 (by omega) _).congr (fun i hi => by rcases (show i = 0 ∨ i = 1 ∨ i = 2 ∨ i = 3 by omega) with h | h | h | h <;> subst h <;> rfl)
     have HBX5 : Hid (Below M w6 X5) := by rw [HX5.out]; exact (Below.refl M _).setCell (Nat.le_refl _) _
     have HKX5 : Hid (KeptP (fun c => c = M) w6 X5) := by rw [HX5.out]; exact kp_set _ _ _ _
     have HRB7 : Hid (Blk X5 R 3 (k3 (.slice none 0 0) (.slice none 0 0) (.bool false))) := HKX5.out.blk HRB6.out (by have := HM.out; omega)
     have HLB7 : Hid (X5.ownsRow (M + 1) 5 1 (.slice (some ⟨g5, 0, none⟩) (ln + 1) cap5) (ln + 1) (lbV (lb ++ [x1]))) := by rw [lbV_snoc, HX5.out]; exact owns_set hown5 (by omega)
     have HK7 : Hid (KeptP (fun c => c = M ∨ (Value.slice la ln lc).ownBlock = some c) w X5) := by
      have k1 : KeptP (fun c => c = M ∨ (Value.slice la ln lc).ownBlock = some c) w (V.alloc (.cells #[.int .u8 x1] 5)) := KeptP.of_below (HBW.out.trans (HB5.out.mono (by have := HR.out; omega))) (fun _ h _ => h)
      have k2 : KeptP (fun c => c = M ∨ (Value.slice la ln lc).ownBlock = some c) (V.alloc (.cells #[.int .u8 x1] 5)) w6 := ⟨HK6.out.os, HK6.out.tape, HK6.out.output, HK6.out.size, fun k hk hn => HK6.out.block k hk (fun e => hn (.inr e))⟩
      rw [HX5.out]
      exact (k1.trans k2).setCell (.inl rfl) _
     have HLOC : Hid ((Value.slice la ln lc).ownBlock = some g5 ∨ R + 3 ≤ g5) := hloc5.imp id (fun h => by have h1 := HB5.out.size; have h2 := HSW.out; omega)
     have HS7 : Hid (R + 3 ≤ X5.heap.size) := by have h1 := HB5.out.size; have h2 := HSW.out; have h3 := HK6.out.size; have h4 := HBX5.out.size; show _ ≤ _; omega
     rw [show w6.setCell ⟨M, 1, none⟩ (.slice (some ⟨g5, 0, none⟩) (ln + 1) cap5) = X5 from HX5.out.symm]
     clear HX5 HBX5 HKX5 hown5 hgrow5 hloc5 hg5 hlt9 HMB6 HRB6 HK6 HOWN hbase f1 f2 d1 d2
     have c1 : X5.cell? ⟨M, 1, none⟩ = some (.slice (some ⟨g5, 0, none⟩) (ln + 1) cap5) := HMB7.out.cell (i := 1) (by omega)
     by_cases h24 : 24 ≤ ln + 1
     ·have h24b : (ln : Int) + 1 ≥ 24 := by omega
      have h24c : (24 : Int) ≤ (ln : Int) + 1 := by omega
      rw [show decide (24 ≤ ln + 1) = true from decide_eq_true h24]
      have c3 : X5.cell? ⟨M, 3, none⟩ = some (.bool false) := HMB7.out.cell (i := 3) (by omega)
      have hf3 := HMB7.out.frozen 3
      go_upto_region 8 with fail
      obtain ⟨Y, HY⟩ : ∃ x, Hid (x = X5.setCell ⟨M, 3, none⟩ (.bool true)) := ⟨_, rfl⟩
      have HMBY : Hid (Blk Y M 4 (mkC (.slice (some ⟨bb, oo, none⟩) m mc) (.slice (some ⟨g5, 0, none⟩) (ln + 1) cap5) (.slice aa an ac) true)) := by rw [HY.out]; exact (HMB7.out.set 3 (by omega) _).congr (fun i hi => by rcases (show i = 0 ∨ i = 1 ∨ i = 2 ∨ i = 3 by omega) with h | h | h | h <;> subst h <;> rfl)
      have HKY0 : Hid (KeptP (fun c => c = M) X5 Y) := by rw [HY.out]; exact kp_set _ _ _ _
      have HRBY : Hid (Blk Y R 3 (k3 (.slice none 0 0) (.slice none 0 0) (.bool false))) := HKY0.out.blk HRB7.out (by have := HM.out; omega)
      have HLBY : Hid (Y.ownsRow (M + 1) 5 1 (.slice (some ⟨g5, 0, none⟩) (ln + 1) cap5) (ln + 1) (lbV (lb ++ [x1]))) := by rw [HY.out]; exact owns_set HLB7.out (by omega)
      have HKY : Hid (KeptP (fun c => c = M ∨ (Value.slice la ln lc).ownBlock = some c) w Y) := by rw [HY.out]; exact HK7.out.setCell (.inl rfl) _
      have HSY : Hid (R + 3 ≤ Y.heap.size) := Nat.le_trans HS7.out HKY0.out.size
      rw [show X5.setCell ⟨M, 3, none⟩ (.bool true) = Y from HY.out.symm]
      clear HY c1 c3 hf3 HKY0
      have HBZ0 : Hid (Below R ((Y.alloc (.cells #[.int .i64 ((ln : Int) + 1)] 3)).alloc (.cells #[.int .i64 ((ln : Int) + 1)] 3)) (((Y.alloc (.cells #[.int .i64 ((ln : Int) + 1)] 3)).alloc (.cells #[.int .i64 ((ln : Int) + 1)] 3)).setCells R 0 [.slice (some ⟨Y.heap.size, 0, none⟩) 1 1, .slice (some ⟨Y.heap.size + 1, 0, none⟩) 1 1, .bool false])) := bl_set3 _ R _ _ _ (by have := HSY.out; simp; omega)
      have HRBZ : Hid (Blk ((Y.alloc (.cells #[.int .i64 ((ln : Int) + 1)] 3)).alloc (.cells #[.int .i64 ((ln : Int) + 1)] 3)) R 3 (k3 (.slice none 0 0) (.slice none 0 0) (.bool false))) := (HRBY.out.alloc _).alloc _
      have HKZ0 : Hid (KeptP (fun c => c = R) ((Y.alloc (.cells #[.int .i64 ((ln : Int) + 1)] 3)).alloc (.cells #[.int .i64 ((ln : Int) + 1)] 3)) (((Y.alloc (.cells #[.int .i64 ((ln : Int) + 1)] 3)).alloc (.cells #[.int .i64 ((ln : Int) + 1)] 3)).setCells R 0 [.slice (some ⟨Y.heap.size, 0, none⟩) 1 1, .slice (some ⟨Y.heap.size + 1, 0, none⟩) 1 1, .bool false])) := kp_set3 _ R _ _ _
      have HF1 : Hid (((Y.alloc (.cells #[.int .i64 ((ln : Int) + 1)] 3)).alloc (.cells #[.int .i64 ((ln : Int) + 1)] 3)).ownsRow w.heap.size 3 1 (.slice (some ⟨Y.heap.size, 0, none⟩) 1 1) 1 (rowCells [((ln + 1 : Nat) : Int)])) := (own_one Y Y.heap.size w.heap.size rfl (by have := HSY.out; have := HR.out; omega) ((ln : Int) + 1)).alloc _
      have HF2 : Hid (((Y.alloc (.cells #[.int .i64 ((ln : Int) + 1)] 3)).alloc (.cells #[.int .i64 ((ln : Int) + 1)] 3)).ownsRow w.heap.size 3 1 (.slice (some ⟨Y.heap.size + 1, 0, none⟩) 1 1) 1 (rowCells [((ln + 1 : Nat) : Int)])) := own_one _ (Y.heap.size + 1) w.heap.size (by simp) (by have := HSY.out; have := HR.out; omega) ((ln : Int) + 1)
      have HKZ : Hid (KeptP (fun c => c = M ∨ (Value.slice la ln lc).ownBlock = some c) w (((Y.alloc (.cells #[.int .i64 ((ln : Int) + 1)] 3)).alloc (.cells #[.int .i64 ((ln : Int) + 1)] 3)).setCells R 0 [.slice (some ⟨Y.heap.size, 0, none⟩) 1 1, .slice (some ⟨Y.heap.size + 1, 0, none⟩) 1 1, .bool false])) := (HKY.out.more (((Below.refl R _).alloc (by have := HSY.out; omega) _).alloc (by have := HSY.out; simp; omega) _) (by rw [HR.out]; exact Nat.le_refl _)).more HBZ0.out (by rw [HR.out]; exact Nat.le_refl _)
      have HLBZ : Hid (((Y.alloc (.cells #[.int .i64 ((ln : Int) + 1)] 3)).alloc (.cells #[.int .i64 ((ln : Int) + 1)] 3)).ownsRow (M + 1) 5 1 (.slice (some ⟨g5, 0, none⟩) (ln + 1) cap5) (ln + 1) (lbV (lb ++ [x1]))) := (HLBY.out.alloc _).alloc _
      have HG5 : Hid (g5 ≠ R ∧ g5 < Y.heap.size) := ⟨by rcases HLOC.out with h | h; have := HLTR.out _ h; omega; omega, (HLBY.out.lt g5 rfl).2⟩
      have HMZ : Hid (Blk (((Y.alloc (.cells #[.int .i64 ((ln : Int) + 1)] 3)).alloc (.cells #[.int .i64 ((ln : Int) + 1)] 3)).setCells R 0 [.slice (some ⟨Y.heap.size, 0, none⟩) 1 1, .slice (some ⟨Y.heap.size + 1, 0, none⟩) 1 1, .bool false]) M 4 (mkC (.slice (some ⟨bb, oo, none⟩) m mc) (.slice (some ⟨g5, 0, none⟩) (ln + 1) cap5) (.slice aa an ac) true)) := ((HMBY.out.alloc _).alloc _).of_block (HBZ0.out.block _ HM.out.1)
      have b1 := HRBZ.out.set 0 (by omega) (.slice (some ⟨Y.heap.size, 0, none⟩) 1 1)
      have b2 := b1.set 1 (by omega) (.slice (some ⟨Y.heap.size + 1, 0, none⟩) 1 1)
      have q0 : ((Y.alloc (.cells #[.int .i64 ((ln : Int) + 1)] 3)).alloc (.cells #[.int .i64 ((ln : Int) + 1)] 3)).cell? ⟨R, 0, none⟩ = some (.slice none 0 0) := HRBZ.out.cell (i := 0) (by omega)
      have q1 : (((Y.alloc (.cells #[.int .i64 ((ln : Int) + 1)] 3)).alloc (.cells #[.int .i64 ((ln : Int) + 1)] 3)).setCell ⟨R, 0, none⟩ (.slice (some ⟨Y.heap.size, 0, none⟩) 1 1)).cell? ⟨R, 1, none⟩ = some (.slice none 0 0) := b1.cell (i := 1) (by omega)
      have q2 : ((((Y.alloc (.cells #[.int .i64 ((ln : Int) + 1)] 3)).alloc (.cells #[.int .i64 ((ln : Int) + 1)] 3)).setCell ⟨R, 0, none⟩ (.slice (some ⟨Y.heap.size, 0, none⟩) 1 1)).setCell ⟨R, 1, none⟩ (.slice (some ⟨Y.heap.size + 1, 0, none⟩) 1 1)).cell? ⟨R, 2, none⟩ = some (.bool false) := b2.cell (i := 2) (by omega)
      have q3 := HRBZ.out.frozen 0
      have q4 := b1.frozen 1
      have q5 := b2.frozen 2
      clear b1 b2
      go_wp2_with fail
      obtain rfl : FF = Tryz.f58 := HFF.out
      refine bodyPost_ret (res_look (k := 4) (t := 104) (b := R) Tryz.results58 rfl (load_look (k3_put HRBZ.out _ _ _))) rfl ?_
      refine ⟨.slice (some ⟨g5, 0, none⟩) (ln + 1) cap5, aa, an, ac, .slice (some ⟨Y.heap.size, 0, none⟩) 1 1, .slice (some ⟨Y.heap.size + 1, 0, none⟩) 1 1, rfl, NewOr.refl _ _ _, ?_, ?_, ?_, ?_, ?_, HKZ, ?_⟩
      ·intro b o e
       have h3 := HMK.out.off b o e
       have h5 := HSY.out
       have h6 := HR.out
       exact ⟨fun h => by have h2 : Y.heap.size = b := (by simpa [Value.ownBlock] using h); omega, fun h => by have h2 : Y.heap.size + 1 = b := (by simpa [Value.ownBlock] using h); omega⟩
      ·refine Mk.mk HMZ.out HMK.out.len ?_ ?_ ?_
       ·exact (arcs_kept HMK.out.arc HKZ.out (Nat.le_refl _) (fun b o e h => by have h3 := HMK.out.off b o e; rcases h with h | h; omega; exact h3.2.2 h)).wide (Nat.le_refl _) HKZ.out.size
       ·intro b o e
        have h3 := HMK.out.off b o e
        refine ⟨h3.1, Nat.lt_of_lt_of_le h3.2.1 HKZ.out.size, fun h => ?_⟩
        have h2 : g5 = b := by simpa [Value.ownBlock] using h
        rcases HLOC.out with h4 | h4
        ·rw [h2] at h4; exact h3.2.2 h4
        ·have := HR.out; omega
       ·show World.ownsRow _ _ _ _ _ (lb ++ [x1]).length _
        rw [show (lb ++ [x1]).length = ln + 1 by rw [List.length_append, HLN.out]; rfl]
        exact owns_keptP HLBZ.out HKZ0.out (fun c h e => HG5.out.1 ((show g5 = c by simpa [Value.ownBlock] using h).trans e))
      ·refine Rw.mk (owns_keptP HF1.out HKZ0.out (fun c h e => by have h2 : Y.heap.size = c := (by simpa [Value.ownBlock] using h); have e2 : c = R := e; have := HSY.out; omega)) ?_
       intro b h1 h2
       have h3 : Y.heap.size = b := by simpa [Value.ownBlock] using h1
       have h4 : g5 = b := by simpa [Value.ownBlock] using h2
       have := HG5.out.2; omega
      ·refine Rw.mk (owns_keptP HF2.out HKZ0.out (fun c h e => by have h2 : Y.heap.size + 1 = c := (by simpa [Value.ownBlock] using h); have e2 : c = R := e; have := HSY.out; omega)) ?_
       intro b h1 h2
       have h3 : Y.heap.size + 1 = b := by simpa [Value.ownBlock] using h1
       have h4 : g5 = b := by simpa [Value.ownBlock] using h2
       have := HG5.out.2; omega
      ·intro b h1 h2
       have h3 : Y.heap.size = b := by simpa [Value.ownBlock] using h1
       have h4 : Y.heap.size + 1 = b := by simpa [Value.ownBlock] using h2
       omega
      ·rcases HLOC.out with h | h
       ·exact .inl (by rw [h]; rfl)
       ·exact .inr fun b h1 => by have h2 : g5 = b := (by simpa [Value.ownBlock] using h1); have := HR.out; omega
     ·have h24b : ¬ (ln : Int) + 1 ≥ 24 := by omega
      have h24c : ¬ (24 : Int) ≤ (ln : Int) + 1 := by omega
      rw [show decide (24 ≤ ln + 1) = false from decide_eq_false h24]
      go_upto_region 8 with fail
      clear c1
      obtain ⟨Y, HY⟩ : ∃ x, Hid (x = X5) := ⟨_, rfl⟩
      rw [← HY.out] at HMB7 HRB7 HLB7 HK7 HS7
      rw [show X5 = Y from HY.out.symm]
      have HMBY := HMB7
      have HRBY := HRB7
      have HLBY := HLB7
      have HKY := HK7
      have HSY := HS7
      have HBZ0 : Hid (Below R ((Y.alloc (.cells #[.int .i64 ((ln : Int) + 1)] 3)).alloc (.cells #[.int .i64 ((ln : Int) + 1)] 3)) (((Y.alloc (.cells #[.int .i64 ((ln : Int) + 1)] 3)).alloc (.cells #[.int .i64 ((ln : Int) + 1)] 3)).setCells R 0 [.slice (some ⟨Y.heap.size, 0, none⟩) 1 1, .slice (some ⟨Y.heap.size + 1, 0, none⟩) 1 1, .bool false])) := bl_set3 _ R _ _ _ (by have := HSY.out; simp; omega)
      have HRBZ : Hid (Blk ((Y.alloc (.cells #[.int .i64 ((ln : Int) + 1)] 3)).alloc (.cells #[.int .i64 ((ln : Int) + 1)] 3)) R 3 (k3 (.slice none 0 0) (.slice none 0 0) (.bool false))) := (HRBY.out.alloc _).alloc _
      have HKZ0 : Hid (KeptP (fun c => c = R) ((Y.alloc (.cells #[.int .i64 ((ln : Int) + 1)] 3)).alloc (.cells #[.int .i64 ((ln : Int) + 1)] 3)) (((Y.alloc (.cells #[.int .i64 ((ln : Int) + 1)] 3)).alloc (.cells #[.int .i64 ((ln : Int) + 1)] 3)).setCells R 0 [.slice (some ⟨Y.heap.size, 0, none⟩) 1 1, .slice (some ⟨Y.heap.size + 1, 0, none⟩) 1 1, .bool false])) := kp_set3 _ R _ _ _
      have HF1 : Hid (((Y.alloc (.cells #[.int .i64 ((ln : Int) + 1)] 3)).alloc (.cells #[.int .i64 ((ln : Int) + 1)] 3)).ownsRow w.heap.size 3 1 (.slice (some ⟨Y.heap.size, 0, none⟩) 1 1) 1 (rowCells [((ln + 1 : Nat) : Int)])) := (own_one Y Y.heap.size w.heap.size rfl (by have := HSY.out; have := HR.out; omega) ((ln : Int) + 1)).alloc _
      have HF2 : Hid (((Y.alloc (.cells #[.int .i64 ((ln : Int) + 1)] 3)).alloc (.cells #[.int .i64 ((ln : Int) + 1)] 3)).ownsRow w.heap.size 3 1 (.slice (some ⟨Y.heap.size + 1, 0, none⟩) 1 1) 1 (rowCells [((ln + 1 : Nat) : Int)])) := own_one _ (Y.heap.size + 1) w.heap.size (by simp) (by have := HSY.out; have := HR.out; omega) ((ln : Int) + 1)
      have HKZ : Hid (KeptP (fun c => c = M ∨ (Value.slice la ln lc).ownBlock = some c) w (((Y.alloc (.cells #[.int .i64 ((ln : Int) + 1)] 3)).alloc (.cells #[.int .i64 ((ln : Int) + 1)] 3)).setCells R 0 [.slice (some ⟨Y.heap.size, 0, none⟩) 1 1, .slice (some ⟨Y.heap.size + 1, 0, none⟩) 1 1, .bool false])) := (HKY.out.more (((Below.refl R _).alloc (by have := HSY.out; omega) _).alloc (by have := HSY.out; simp; omega) _) (by rw [HR.out]; exact Nat.le_refl _)).more HBZ0.out (by rw [HR.out]; exact Nat.le_refl _)
      have HLBZ : Hid (((Y.alloc (.cells #[.int .i64 ((ln : Int) + 1)] 3)).alloc (.cells #[.int .i64 ((ln : Int) + 1)] 3)).ownsRow (M + 1) 5 1 (.slice (some ⟨g5, 0, none⟩) (ln + 1) cap5) (ln + 1) (lbV (lb ++ [x1]))) := (HLBY.out.alloc _).alloc _
      have HG5 : Hid (g5 ≠ R ∧ g5 < Y.heap.size) := ⟨by rcases HLOC.out with h | h; have := HLTR.out _ h; omega; omega, (HLBY.out.lt g5 rfl).2⟩
      have HMZ : Hid (Blk (((Y.alloc (.cells #[.int .i64 ((ln : Int) + 1)] 3)).alloc (.cells #[.int .i64 ((ln : Int) + 1)] 3)).setCells R 0 [.slice (some ⟨Y.heap.size, 0, none⟩) 1 1, .slice (some ⟨Y.heap.size + 1, 0, none⟩) 1 1, .bool false]) M 4 (mkC (.slice (some ⟨bb, oo, none⟩) m mc) (.slice (some ⟨g5, 0, none⟩) (ln + 1) cap5) (.slice aa an ac) false)) := ((HMBY.out.alloc _).alloc _).of_block (HBZ0.out.block _ HM.out.1)
      have b1 := HRBZ.out.set 0 (by omega) (.slice (some ⟨Y.heap.size, 0, none⟩) 1 1)
      have b2 := b1.set 1 (by omega) (.slice (some ⟨Y.heap.size + 1, 0, none⟩) 1 1)
      have q0 : ((Y.alloc (.cells #[.int .i64 ((ln : Int) + 1)] 3)).alloc (.cells #[.int .i64 ((ln : Int) + 1)] 3)).cell? ⟨R, 0, none⟩ = some (.slice none 0 0) := HRBZ.out.cell (i := 0) (by omega)
      have q1 : (((Y.alloc (.cells #[.int .i64 ((ln : Int) + 1)] 3)).alloc (.cells #[.int .i64 ((ln : Int) + 1)] 3)).setCell ⟨R, 0, none⟩ (.slice (some ⟨Y.heap.size, 0, none⟩) 1 1)).cell? ⟨R, 1, none⟩ = some (.slice none 0 0) := b1.cell (i := 1) (by omega)
      have q2 : ((((Y.alloc (.cells #[.int .i64 ((ln : Int) + 1)] 3)).alloc (.cells #[.int .i64 ((ln : Int) + 1)] 3)).setCell ⟨R, 0, none⟩ (.slice (some ⟨Y.heap.size, 0, none⟩) 1 1)).setCell ⟨R, 1, none⟩ (.slice (some ⟨Y.heap.size + 1, 0, none⟩) 1 1)).cell? ⟨R, 2, none⟩ = some (.bool false) := b2.cell (i := 2) (by omega)
      have q3 := HRBZ.out.frozen 0
      have q4 := b1.frozen 1
      have q5 := b2.frozen 2
      clear b1 b2
      go_wp2_with fail
      obtain rfl : FF = Tryz.f58 := HFF.out
      refine bodyPost_ret (res_look (k := 4) (t := 104) (b := R) Tryz.results58 rfl (load_look (k3_put HRBZ.out _ _ _))) rfl ?_
      refine ⟨.slice (some ⟨g5, 0, none⟩) (ln + 1) cap5, aa, an, ac, .slice (some ⟨Y.heap.size, 0, none⟩) 1 1, .slice (some ⟨Y.heap.size + 1, 0, none⟩) 1 1, rfl, NewOr.refl _ _ _, ?_, ?_, ?_, ?_, ?_, HKZ, ?_⟩
      ·intro b o e
       have h3 := HMK.out.off b o e
       have h5 := HSY.out
       have h6 := HR.out
       exact ⟨fun h => by have h2 : Y.heap.size = b := (by simpa [Value.ownBlock] using h); omega, fun h => by have h2 : Y.heap.size + 1 = b := (by simpa [Value.ownBlock] using h); omega⟩
      ·refine Mk.mk HMZ.out HMK.out.len ?_ ?_ ?_
       ·exact (arcs_kept HMK.out.arc HKZ.out (Nat.le_refl _) (fun b o e h => by have h3 := HMK.out.off b o e; rcases h with h | h; omega; exact h3.2.2 h)).wide (Nat.le_refl _) HKZ.out.size
       ·intro b o e
        have h3 := HMK.out.off b o e
        refine ⟨h3.1, Nat.lt_of_lt_of_le h3.2.1 HKZ.out.size, fun h => ?_⟩
        have h2 : g5 = b := by simpa [Value.ownBlock] using h
        rcases HLOC.out with h4 | h4
        ·rw [h2] at h4; exact h3.2.2 h4
        ·have := HR.out; omega
       ·show World.ownsRow _ _ _ _ _ (lb ++ [x1]).length _
        rw [show (lb ++ [x1]).length = ln + 1 by rw [List.length_append, HLN.out]; rfl]
        exact owns_keptP HLBZ.out HKZ0.out (fun c h e => HG5.out.1 ((show g5 = c by simpa [Value.ownBlock] using h).trans e))
      ·refine Rw.mk (owns_keptP HF1.out HKZ0.out (fun c h e => by have h2 : Y.heap.size = c := (by simpa [Value.ownBlock] using h); have e2 : c = R := e; have := HSY.out; omega)) ?_
       intro b h1 h2
       have h3 : Y.heap.size = b := by simpa [Value.ownBlock] using h1
       have h4 : g5 = b := by simpa [Value.ownBlock] using h2
       have := HG5.out.2; omega
      ·refine Rw.mk (owns_keptP HF2.out HKZ0.out (fun c h e => by have h2 : Y.heap.size + 1 = c := (by simpa [Value.ownBlock] using h); have e2 : c = R := e; have := HSY.out; omega)) ?_
       intro b h1 h2
       have h3 : Y.heap.size + 1 = b := by simpa [Value.ownBlock] using h1
       have h4 : g5 = b := by simpa [Value.ownBlock] using h2
       have := HG5.out.2; omega
      ·intro b h1 h2
       have h3 : Y.heap.size = b := by simpa [Value.ownBlock] using h1
       have h4 : Y.heap.size + 1 = b := by simpa [Value.ownBlock] using h2
       omega
      ·rcases HLOC.out with h | h
       ·exact .inl (by rw [h]; rfl)
       ·exact .inr fun b h1 => by have h2 : g5 = b := (by simpa [Value.ownBlock] using h1); have := HR.out; omega
    exact AllReadyH.nil
   exact AllReadyH.nil
  exact AllReadyH.nil
 exact AllReadyH.nil
end Go.Proofs.YtbepmeipjdpipaaGreat
