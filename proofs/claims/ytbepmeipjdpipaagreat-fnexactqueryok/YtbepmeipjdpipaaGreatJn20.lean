import Derived.Test.YtbepmeipjdpipaaGreatJn19
import Derived.Test.YtbepmeipjdpipaaGreatJn14
import Derived.Test.YtbepmeipjdpipaaGreatJn04
namespace Go.Proofs.YtbepmeipjdpipaaGreat
open Go.RowKit

def noM : Nat → Nat → Bool := fun _ _ => false
def sgL (sh lv : Value) : List Value := (List.range 578).map (sgF sh lv noM)
theorem sgL_len (sh lv : Value) : (sgL sh lv).length = 578 := by simp [sgL]
theorem sgL_size (sh lv : Value) : (sgL sh lv).toArray.size = 578 := by simp [sgL]
theorem sgL_one (a b : Option Addr) (n m c d : Nat) : (sgL (.slice a n c) (.slice b m d)).toArray.all (·.oneCell') = true :=
  all_oneCell_toArray fun v hv => by
    obtain ⟨i, _, rfl⟩ := List.mem_map.1 hv
    unfold sgF
    split
    · rfl
    · split <;> rfl
theorem sg_new (w : World) (b : Nat) (hb : b = w.heap.size) (sh lv : Value) (T : TypeId) : Blk (w.alloc (.cells (sgL sh lv).toArray T)) b 578 (sgF sh lv noM) := by
  have := blk_new w (sgL sh lv).toArray T (sgF sh lv noM) (fun i hi => by rw [sgL_size] at hi; simp [sgL, hi])
  rw [sgL_size] at this
  rw [hb]; exact this
theorem sg_putAll {w : World} {b : Nat} {sh lv sh' lv' : Value} {bh : Nat → Nat → Bool} (h : Blk w b 578 (sgF sh lv bh)) : Blk (w.setCells b 0 (sgL sh' lv')) b 578 (sgF sh' lv' noM) := by
  refine (Blk.setRange (sgL sh' lv') 0 h (by rw [sgL_len]; omega)).congr fun i hi => ?_
  rw [if_pos ⟨Nat.zero_le _, by rw [sgL_len]; omega⟩]
  simp [sgL, List.getD, hi]
theorem sg_allThere {w : World} {b : Nat} {sh lv : Value} {bh : Nat → Nat → Bool} (h : Blk w b 578 (sgF sh lv bh)) : w.there b 0 578 := fun j hj => ⟨by rw [Nat.zero_add, h.cell hj]; rfl, h.frozen _⟩
set_option maxRecDepth 100000 in
theorem zero_sg : Tryz.zeroCells119 = (sgL (.slice none 0 0) (.slice none 0 0)).toArray := by kernel_rfl
theorem info_sg : (Tryz.prog.info? 119).map (·.size) = some 578 := by kernel_rfl
set_option maxRecDepth 100000 in
theorem build_sg (a b : Option Addr) (n m c d : Nat) (w : World) : (Instr.build 119 #[(0, .slice a n c), (1, .slice b m d)]).run Tryz.prog w = .ok (.agg (sgL (.slice a n c) (.slice b m d)).toArray) w := run_build w 119 _ _ (by kernel_rfl)
theorem own_byte (w : World) (g H : Nat) (hg : g = w.heap.size) (hH : H ≤ g) (x : Int) : (w.alloc (.cells #[.int .u8 x] 5)).ownsRow H 5 1 (.slice (some ⟨g, 0, none⟩) 1 1) 1 (lbV [x]) := by
  subst hg
  exact World.ownsRow_lit w #[.int .u8 x] 1 hH (by unfold maxLen; omega) rfl
def ImPost (ps : List Pc) (w : World) (e : Ending) (w' : World) : Prop :=
  ∃ (s : Int) (aa : Option Addr) (an ac : Nat) (eb : Option Addr) (m mc : Nat), e = .returned (.tuple #[nv s aa an ac eb m mc, .bool (nfG ps)]) ∧ Hid (s = nfSt ps) ∧ Hid ((nfAr ps).length = an) ∧ Hid ((nfEn ps).length = m) ∧ Hid (NfaOwn w.heap.size w'.heap.size w' aa eb (nfAr ps) (nfEn ps)) ∧ Hid (Below w.heap.size w w')
theorem ImPost.no {ps : List Pc} (h : nfG ps = false) {w w' : World} (hb : Below w.heap.size w w') : ImPost ps w (.returned (.tuple #[.agg #[.int .i64 0, .slice none 0 0, .slice none 0 0], .bool false])) w' := by
  have hf : ¬ nfG ps = true := by rw [h]; simp
  refine ⟨0, none, 0, 0, none, 0, 0, by rw [h], ?_, ?_, ?_, ?_, hb⟩
  · show 0 = _; unfold nfSt; rw [if_neg hf]
  · show _ = _; unfold nfAr; rw [if_neg hf]; rfl
  · show _ = _; unfold nfEn; rw [if_neg hf]; rfl
  · show NfaOwn _ _ _ _ _ _ _; unfold nfAr nfEn; rw [if_neg hf, if_neg hf]; exact ⟨w.heap.size, Nat.le_refl _, hb.size, .inl rfl, .inl rfl⟩
theorem nfB_lt {ps : List Pc} (h : okP ps = true) (hn : nfN ps < 24) {a b : Nat} (hb : nfB ps a b = true) : b ≤ (nfT ps).1.lb.length := by
  obtain ⟨h1, h2⟩ := nfT_tie h hn
  rw [h1.1]
  unfold nfB at hb
  by_cases e : a = 0
  · rw [if_pos e] at hb
    obtain ⟨t, _, t2, t3⟩ := (nfS_ok h).fi.2 _ ((h2.1 b).1 hb)
    omega
  · rw [if_neg e] at hb
    obtain ⟨l, hm⟩ := (h1.2 a b).1 hb
    obtain ⟨f, t, _, _, _, a4, e2⟩ := (nfS_ok h).ok.arc _ hm
    simp only [Prod.mk.injEq] at e2
    omega

set_option maxHeartbeats 2000000 in
set_option maxRecDepth 100000 in
theorem implNfaOf_any (lo hi : Nat) (a : Option Addr) (n cap : Nat) (l : List Pc) (w : World) (ha : PathIn lo hi w a l) (hh : hi ≤ w.heap.size) (hn : l.length = n) (hm : n ≤ 1048576) (hq : ∀ i, i < n → (pat l i).2.2.length ≤ 1048576) :
    Calls Tryz.prog 48 #[pv a n cap] w (ImPost l w) := by
  have HN : Hid (l.length = n) := hn
  have HA : Hid (PathIn lo hi w a l) := ha
  have HH : Hid (hi ≤ w.heap.size) := hh
  have HQ : Hid (∀ i, i < n → (pat l i).2.2.length ≤ 1048576) := hq
  clear ha hh hn hq
  obtain ⟨B, HB⟩ : ∃ B, Hid (B = w.heap.size) := ⟨_, rfl⟩
  obtain ⟨W, HW⟩ : ∃ W, Hid (W = (w.alloc (.cells #[.slice a n cap] 73)).alloc (.cells #[.int .i64 0, .slice none 0 0, .slice none 0 0] 80)) := ⟨_, rfl⟩
  have HBW : Hid (Below w.heap.size w W) := by rw [HW.out]; exact below2 w _ _
  have HSW : Hid (W.heap.size = B + 2) := by rw [HW.out, HB.out]; show _ = _; simp
  have HPW : Hid (Blk W B 1 (fun _ => .slice a n cap)) := by rw [HW.out]; exact (blk_one w B HB.out _ _).alloc _
  have HRW : Hid (Blk W (B + 1) 3 (k3 (.int .i64 0) (.slice none 0 0) (.slice none 0 0))) := by rw [HW.out]; exact blk_three _ (B + 1) (by rw [HB.out]; simp) _ _ _ _
  have p0 : W.cell? ⟨B, 0, none⟩ = some (.slice a n cap) := HPW.out.cell (i := 0) (by omega)
  unfold pv
  go_enter Tryz.func48, Tryz.ntmps48
  obtain ⟨FF, HFF⟩ : ∃ F : Func, Hid (F = Tryz.f48) := ⟨_, rfl⟩
  rw [← HFF.out]
  go_upto_region 1 with fail
  rw [← HB.out]
  first | rw [← HW.out] | (rw [show _ = W from HW.out.symm])
  clear HW
  have HCO : Hid (Calls Tryz.prog 64 #[.agg #[.slice a n cap]] W fun e w' => ShsPost lo hi W l e w') := shapesOf_any lo hi a n cap l W (HA.out.below HBW.out HH.out) (Nat.le_trans HH.out HBW.out.size) HN.out hm HQ.out
  have HEND : Hid (∀ (wz : World), Blk wz (B + 1) 3 (k3 (.int .i64 0) (.slice none 0 0) (.slice none 0 0)) → Below w.heap.size w wz → nfG l = false → ImPost l w (.returned (.tuple #[.agg #[.int .i64 0, .slice none 0 0, .slice none 0 0], .bool false])) (wz.setCells (B + 1) 0 [.int .i64 0, .slice none 0 0, .slice none 0 0])) := fun wz hbl hb hg => ImPost.no hg (hb.trans ((bl_set3 wz (B + 1) _ _ _ hbl.lt).mono (by have := HB.out; omega)))
  go_upto_region 2 with (go_at_call 64; refine (HCO.out).mono ?_; rintro e w1 ⟨sv1, ok, rfl, HOK, HSH, HB1⟩)
  have HR1 : Hid (Blk w1 (B + 1) 3 (k3 (.int .i64 0) (.slice none 0 0) (.slice none 0 0))) := HRW.out.of_block (HB1.out.block _ HRW.out.lt)
  have HBW1 : Hid (Below w.heap.size w w1) := HBW.out.trans (HB1.out.mono HBW.out.size)
  clear p0 HCO
  rcases Bool.eq_false_or_eq_true ok with hok | hok
  · subst hok
    obtain ⟨hn1, hn60, hokl⟩ := okP_all HOK.out.symm
    have HOKL : Hid (∀ i, i < l.length → formOk (pat l i) = true ∧ kidsOk i (pat l i).2.2 = true) := hokl
    rw [HN.out] at hn1 hn60
    clear hokl
    obtain ⟨k, rfl⟩ : ∃ k, n = k + 1 := ⟨n - 1, by omega⟩
    have hk1 : ((k + 1 : Nat) : Int) - 1 = (k : Int) := by omega
    obtain ⟨xs, hxs, hxo⟩ := HSH.out rfl
    rw [HN.out] at hxs hxo
    obtain ⟨sa, sc, rfl, hsc⟩ := own_shape hxo
    obtain ⟨sg, rfl, hsg1, hsg2, hsg3⟩ := hsc (by omega)
    have HXS : Hid (Shs lo hi W xs l (k + 1)) := hxs
    have HXO : Hid (w1.ownsRow W.heap.size 136 1 (.slice (some ⟨sg, 0, none⟩) (k + 1) sc) (k + 1) xs) := hxo
    have HSG : Hid (sg < w1.heap.size ∧ W.heap.size ≤ sg) := ⟨hsg2, hsg1⟩
    have HSC : Hid (∀ j, j < k + 1 → w1.cell? ⟨sg, j, none⟩ = some (xs.getD j .nilIface)) := fun j hj => by
      rw [hsg3 j hj]
      have : j < xs.length := by rw [hxs.1]; exact hj
      simp [List.getD, this]
    clear hxs hxo hsc hsg1 hsg2 hsg3 HSH
    have HCS := Hid_mk (steps_any lo hi W.heap.size (.slice (some ⟨sg, 0, none⟩) (k + 1) sc) (k + 1) xs l w1 (HXS.out.below HB1.out (by have := HH.out; have := HBW.out.size; omega)) HXO.out (by have := HH.out; have := HBW1.out.size; omega) HN.out (by omega) hn60 HOKL.out HQ.out)
    have HCV : Hid (cS l k = min 24 (nfN l)) := by show _ = _; unfold cS nfN; rw [HN.out]; rfl
    obtain ⟨cs, HCC⟩ : ∃ c, Hid (c = cS l k) := ⟨_, rfl⟩
    simp only [Nat.add_sub_cancel] at HCS
    rw [← HCC.out] at HCS HCV
    have hcs24 : cs ≤ 24 := by have := HCV.out; omega
    have hwc : IntKind.i64.wrap (1 + (cs : Int)) = 1 + (cs : Int) := by simp [IntKind.wrap, IntKind.bits, IntKind.signed]; omega
    by_cases hlt : nfN l < 24
    · have HLT : Hid (nfN l < 24) := hlt
      have HNG : Hid (nfG l = true) := by show _ = _; unfold nfG; rw [← HOK.out, decide_eq_true hlt]; rfl
      have hcc1 : ¬ (1 + (cs : Int)) > 24 := by have := HCV.out; omega
      have hcc2 : ¬ (24 : Int) < 1 + (cs : Int) := by have := HCV.out; omega
      go_upto_region 4 with (go_at_call 65; refine (HCS.out).mono ?_; rintro e w2 ⟨rfl, HB2⟩)
      have HR2 : Hid (Blk w2 (B + 1) 3 (k3 (.int .i64 0) (.slice none 0 0) (.slice none 0 0))) := HR1.out.of_block (HB2.out.block _ HR1.out.lt)
      have HBW2 : Hid (Below w.heap.size w w2) := HBW1.out.trans (HB2.out.mono HBW1.out.size)
      have HBV2 : Hid (Below W.heap.size W w2) := HB1.out.trans (HB2.out.mono HB1.out.size)
      obtain ⟨H, HHH⟩ : ∃ H, Hid (H = w2.heap.size) := ⟨_, rfl⟩
      have HHW : Hid (B + 2 ≤ H ∧ sg < H ∧ hi ≤ H) := by have h1 := HBV2.out.size; have h2 := HSW.out; have h3 := HHH.out; have h4 := HSG.out.1; have h5 := HB2.out.size; have h6 := HH.out; have h7 := HB.out; show _ ∧ _ ∧ _; omega
      obtain ⟨M, HM⟩ : ∃ M, Hid (M = H + 1) := ⟨_, rfl⟩
      obtain ⟨w3, HW3⟩ : ∃ x, Hid (x = ((w2.alloc (.cells #[.int .u8 0] 5)).alloc (.cells Tryz.zeroCells119 119)).setCells M 0 (sgL (.slice (some ⟨sg, 0, none⟩) (k + 1) sc) (.slice (some ⟨H, 0, none⟩) 1 1))) := ⟨_, rfl⟩
      have HT3 : Hid (((w2.alloc (.cells #[.int .u8 0] 5)).alloc (.cells Tryz.zeroCells119 119)).there (w2.heap.size + 1) 0 578) := by
        rw [zero_sg]
        exact sg_allThere (sg_new _ (w2.heap.size + 1) (by simp) _ _ _)
      have HB3 : Hid (Below w2.heap.size w2 w3) := by rw [HW3.out]; exact Below.setCells (by have := HM.out; have := HHH.out; omega) _ _ (below2 w2 _ _)
      have HSG3 : Hid (Sg M H w3 (.slice (some ⟨sg, 0, none⟩) (k + 1) sc) (.slice (some ⟨H, 0, none⟩) 1 1) ⟨[], fun _ _ => false⟩) := by
        refine ⟨?_, ?_, fun e => by simp [Value.ownBlock] at e; have := HM.out; omega⟩
        · rw [HW3.out, zero_sg]
          exact sg_putAll (sg_new _ M (by rw [HM.out, HHH.out]; simp) _ _ _)
        · rw [HW3.out]
          exact owns_keptP ((own_byte w2 H H HHH.out (Nat.le_refl _) 0).alloc _) (KeptP.setCells (p := fun c => c = M) (g := M) rfl _ _ (kp_refl _ _)) (fun c e e2 => by simp [Value.ownBlock] at e; have e3 : c = M := e2; have := HM.out; omega)
      have hbd := build_sg (some ⟨sg, 0, none⟩) (some ⟨w2.heap.size, 0, none⟩) (k + 1) 1 sc 1
      go_upto_region 5 with (first | (with_reducible refine wpList_here' ?_; first | (refine wpList_build rfl 119 _ rfl #[(0, .slice (some ⟨sg, 0, none⟩) (k + 1) sc), (1, .slice (some ⟨w2.heap.size, 0, none⟩) 1 1)] (by kernel_rfl) (sgL (.slice (some ⟨sg, 0, none⟩) (k + 1) sc) (.slice (some ⟨w2.heap.size, 0, none⟩) 1 1)).toArray hbd ?_) | (refine wpList_store_mid rfl 119 _ _ rfl (w2.heap.size + 1) 0 (sgL (.slice (some ⟨sg, 0, none⟩) (k + 1) sc) (.slice (some ⟨w2.heap.size, 0, none⟩) 1 1)).toArray rfl rfl (by rw [sgL_size]; exact HT3.out) (by rw [sgL_size]; exact info_sg) (sgL_one _ _ _ _ _ _) ?_; dsimp only [Act.put])))
      rw [← HHH.out, show H + 1 = M from HM.out.symm]
      first | rw [← HW3.out] | (rw [show _ = w3 from HW3.out.symm])
      clear hbd HT3 HW3 HCS hwc hcc1 hcc2
      have HSM3 : Hid (ShM lo hi sg (k + 1) xs l w3) := by
        have hb3 : Below W.heap.size W w3 := HBV2.out.trans (HB3.out.mono HBV2.out.size)
        refine ⟨HXS.out.below hb3 (by have := HH.out; have := HBW.out.size; omega), fun j hj => ?_, ?_, ?_⟩
        · exact cell_below (cell_below (HSC.out j hj) HB2.out HSG.out.1) HB3.out (by have := HSG.out.1; have := HB2.out.size; omega)
        · have := HSG.out.1; have := HB2.out.size; have := HB3.out.size; omega
        · have := HH.out; have := HBW.out.size; have := hb3.size; omega
      have HR3 : Hid (Blk w3 (B + 1) 3 (k3 (.int .i64 0) (.slice none 0 0) (.slice none 0 0))) := HR2.out.of_block (HB3.out.block _ HR2.out.lt)
      have HBW3 : Hid (Below w.heap.size w w3) := HBW2.out.trans (HB3.out.mono HBW2.out.size)
      obtain ⟨t, HTT⟩ : ∃ t, Hid (t = (nfT l).1) := ⟨_, rfl⟩
      obtain ⟨y, HYY⟩ : ∃ y, Hid (y = (nfT l).2) := ⟨_, rfl⟩
      have HCT : Hid (Calls Tryz.prog 66 #[.pointer (some ⟨M, 0, none⟩), .int .i64 (k : Int)] w3 (SeatPost M H w3 (.slice (some ⟨sg, 0, none⟩) (k + 1) sc) (.slice (some ⟨H, 0, none⟩) 1 1) (t, y))) := by
        have h := seat_any lo hi M H sg (k + 1) sc xs l HHW.out.2.2 HHW.out.2.1 (by have := HM.out; omega) HN.out HOKL.out HQ.out (k + 1) k (by omega) (by omega) ⟨[], fun _ _ => false⟩ (.slice (some ⟨H, 0, none⟩) 1 1) w3 HSM3.out HSG3.out (by
          have h2 := HLT.out
          unfold nfN at h2
          rw [HN.out] at h2
          show 0 + _ ≤ 23
          simp only [Nat.add_sub_cancel] at h2
          omega)
        have e : seatB l (k + 1) k ⟨[], fun _ _ => false⟩ = (t, y) := by rw [HTT.out, HYY.out]; unfold nfT; rw [HN.out]; rfl
        rw [e] at h
        exact h
      obtain ⟨YF, YG, ynl⟩ := y
      go_upto_region 6 with (first | (go_at_call 66; refine (HCT.out).mono ?_; rintro e w4 ⟨lv4, rfl, HSG4, HK4, HNB4⟩; have HDT := Hid_mk ((BBlk.zero49 w4 _ rfl 121).there 0 49 (by omega))) | (with_reducible refine wpList_here' ?_; first | (refine wpList_store_mid rfl 121 _ _ rfl w4.heap.size 0 (bcells 49 (stF ynl YF YG)).toArray rfl rfl (by rw [bcells_size]; exact HDT.out) (by rw [bcells_size]; exact info_st) (bcells_one _ _) ?_; dsimp only [Act.put])))
      have HKM : Hid (KeptP (fun c => c = M ∨ (Value.slice (some ⟨H, 0, none⟩) 1 1).ownBlock = some c) w3 w4) := HK4
      obtain ⟨P, HP⟩ : ∃ P, Hid (P = w4.heap.size) := ⟨_, rfl⟩
      have HPM : Hid (M < P) := by rw [HP.out]; exact HSG4.out.blk.lt
      have HR4 : Hid (Blk w4 (B + 1) 3 (k3 (.int .i64 0) (.slice none 0 0) (.slice none 0 0))) := HKM.out.blk HR3.out (fun e => by have := HHW.out; have := HM.out; rcases e with e | e; omega; simp [Value.ownBlock] at e; omega)
      have HBW4 : Hid (Below w.heap.size w w4) := HBW3.out.trans (HKM.out.to_below HBW3.out.size (fun c e => by have := HHW.out; have := HM.out; have := HB.out; rcases e with e | e; omega; simp [Value.ownBlock] at e; omega))
      obtain ⟨w5, HW5⟩ : ∃ x, Hid (x = (w4.alloc (.cells #[.bool false, .bool false, .bool false, .bool false, .bool false, .bool false, .bool false, .bool false, .bool false, .bool false, .bool false, .bool false, .bool false, .bool false, .bool false, .bool false, .bool false, .bool false, .bool false, .bool false, .bool false, .bool false, .bool false, .bool false, .bool false, .bool false, .bool false, .bool false, .bool false, .bool false, .bool false, .bool false, .bool false, .bool false, .bool false, .bool false, .bool false, .bool false, .bool false, .bool false, .bool false, .bool false, .bool false, .bool false, .bool false, .bool false, .bool false, .bool false, .bool false] 121)).setCells P 0 (bcells 49 (stF ynl YF YG))) := ⟨_, rfl⟩
      have HB5 : Hid (Below w4.heap.size w4 w5) := by rw [HW5.out]; exact Below.setCells (by have := HP.out; omega) _ _ (below1 w4 _)
      have HP5 : Hid (BBlk w5 P 49 (stF ynl YF YG)) := by rw [HW5.out]; exact (BBlk.zero49 w4 P HP.out _).put _
      have HM5 : Hid (Blk w5 M 578 (sgF (.slice (some ⟨sg, 0, none⟩) (k + 1) sc) lv4 t.bh)) := HSG4.out.blk.of_block (HB5.out.block _ HSG4.out.blk.lt)
      have HL5 : Hid (w5.ownsRow H 5 1 lv4 (t.lb.length + 1) (lbV (0 :: t.lb))) := own_below HSG4.out.lab HB5.out
      rw [← HP.out]
      first | rw [← HW5.out] | (rw [show _ = w5 from HW5.out.symm])
      go_upto_region 7 with (first | (with_reducible refine wpList_here' ?_; first | (refine wpList_load_mid rfl 116 _ rfl P 1 rfl (bcells 24 YF) _ (st_first HP5.out) Tryz.underlying116 rfl (by rw [bcells_len]; exact info_set) ?_) | (refine wpList_store_mid rfl 116 _ _ rfl M 2 (bcells 24 YF).toArray rfl rfl (by rw [bcells_size]; exact sg_there HM5.out (a := 0) (by omega)) (by rw [bcells_size]; exact info_set) (bcells_one _ _) ?_; dsimp only [Act.put])))
      obtain ⟨w6, HW6⟩ : ∃ x, Hid (x = w5.setCells M 2 (bcells 24 YF)) := ⟨_, rfl⟩
      have HK6 : Hid (KeptP (fun c => c = M) w5 w6) := by rw [HW6.out]; exact KeptP.setCells (p := fun c => c = M) (g := M) rfl _ _ (kp_refl _ _)
      have HM6 : Hid (Blk w6 M 578 (sgF (.slice (some ⟨sg, 0, none⟩) (k + 1) sc) lv4 fun x => if x = 0 then YF else t.bh x)) := by rw [HW6.out]; exact sg_put HM5.out (a := 0) (by omega) YF
      have HP6 : Hid (BBlk w6 P 49 (stF ynl YF YG)) := HK6.out.blk HP5.out (by have := HPM.out; omega)
      have HL6 : Hid (w6.ownsRow H 5 1 lv4 (t.lb.length + 1) (lbV (0 :: t.lb))) := owns_keptP HL5.out HK6.out (fun c e e2 => HSG4.out.off (by have e3 : c = M := e2; rw [← e3]; exact e))
      first | rw [← HW6.out] | (rw [show _ = w6 from HW6.out.symm])
      have n0 := st_null HP6.out
      have n1 := HP6.out.get (k := 25) (by omega)
      have nf := Blk.frozen HP6.out 25
      go_upto_region 8 with fail
      clear n0 n1 nf
      obtain ⟨w7, HW7⟩ : ∃ x, Hid (x = w6.setCell ⟨P, 25, none⟩ (.bool ynl)) := ⟨_, rfl⟩
      have HK7 : Hid (KeptP (fun c => c = P) w6 w7) := by rw [HW7.out]; exact kp_set _ _ _ _
      have HM7 : Hid (Blk w7 M 578 (sgF (.slice (some ⟨sg, 0, none⟩) (k + 1) sc) lv4 fun x => if x = 0 then YF else t.bh x)) := HK7.out.blk HM6.out (by have := HPM.out; omega)
      have HP7 : Hid (BBlk w7 P 49 (stF ynl YF (fun i => if i = 0 then ynl else YG i))) := by
        rw [HW7.out]
        refine (HP6.out.set1 (k := 25) (by omega) ynl).congr fun i hi => ?_
        unfold stF
        by_cases e : i = 25
        · subst e; rfl
        · rw [if_neg e]
          by_cases e0 : i = 0
          · rw [if_pos e0, if_pos e0]
          · by_cases e1 : i < 25
            · rw [if_neg e0, if_pos e1, if_neg e0, if_pos e1]
            · rw [if_neg e0, if_neg e1, if_neg e0, if_neg e1]
              show YG (i - 25) = if i - 25 = 0 then ynl else YG (i - 25)
              rw [if_neg (by omega)]
      have HPL : Hid (∀ c, lv4.ownBlock = some c → c < P) := fun c e => by have := (HSG4.out.lab.lt c e).2; rw [HP.out]; exact this
      have HL7 : Hid (w7.ownsRow H 5 1 lv4 (t.lb.length + 1) (lbV (0 :: t.lb))) := owns_keptP HL6.out HK7.out (fun c e e2 => by have := HPL.out c e; have e3 : c = P := e2; omega)
      first | rw [← HW7.out] | (rw [show _ = w7 from HW7.out.symm])
      have HBW7 : Hid (Below w.heap.size w w7) := (HBW4.out.trans (HB5.out.mono HBW4.out.size)).trans (((HK6.out.to_below (B := w.heap.size) (by have := HBW4.out.size; have := HB5.out.size; omega) (fun c e => by have e2 : c = M := e; have := HM.out; have := HHW.out; have := HB.out; omega)).trans (HK7.out.to_below (by have := HBW4.out.size; have := HB5.out.size; have := HK6.out.size; omega) (fun c e => by have e2 : c = P := e; have := HP.out; have := HBW4.out.size; omega))))
      have HR7 : Hid (Blk w7 (B + 1) 3 (k3 (.int .i64 0) (.slice none 0 0) (.slice none 0 0))) := HK7.out.blk (HK6.out.blk (HR4.out.of_block (HB5.out.block _ HR4.out.lt)) (by have := HM.out; have := HHW.out; omega)) (by have := HPM.out; have := HM.out; have := HHW.out; omega)
      have HLT2 : Hid (t.lb.length ≤ 23 ∧ t.lb.length = (nfS l).1.lb.length) := by
        have h1 := nfS_len HOK.out.symm
        have h2 := (nfT_tie HOK.out.symm HLT.out).1.1
        rw [← HTT.out] at h2
        have := HLT.out
        show _ ∧ _
        rw [h2]
        omega
      clear HW5 HW6 HW7 HB5 HP5 HM5 HL5 HK6 HM6 HP6 HL6 HR3 HBW3 HR2 HBW2 HBV2 HB3 HSG3 HSM3 HCT HB2 HKM HK4 HR4 HBW4
      obtain ⟨la4, lc4, rfl, _⟩ := own_shape HL7.out
      have m1 : w7.cell? ⟨M, 1, none⟩ = some (.slice la4 (t.lb.length + 1) lc4) := HM7.out.cell (i := 1) (by omega)
      obtain ⟨q, HQQ⟩ : ∃ q, Hid (q = t.lb.length + 1) := ⟨_, rfl⟩
      rw [← HQQ.out] at m1
      have hq24 : (q : Int) ≤ 24 := by have := HQQ.out; have := HLT2.out.1; omega
      have hq0 : (0 : Int) ≤ (q : Int) := by omega
      go_upto_region 9 with fail
      clear m1
      have HSG7 : Hid (Sg M H w7 (.slice (some ⟨sg, 0, none⟩) (k + 1) sc) (.slice la4 q lc4) ⟨t.lb, fun x => if x = 0 then YF else t.bh x⟩) := by
        refine ⟨by rw [HQQ.out]; exact HM7.out, by rw [HQQ.out]; exact HL7.out, ?_⟩
        have h := HSG4.out.off
        cases la4 with
        | none => simp [Value.ownBlock]
        | some ad => simpa [Value.ownBlock] using h
      have HBE : Hid ((fun x => if x = 0 then YF else t.bh x) = nfB l) := by
        show _ = _
        funext x y
        unfold nfB
        rw [← HTT.out, ← HYY.out]
        by_cases e : x = 0 <;> simp [e]
      rw [HBE.out] at HSG7
      have HCA : Hid (∀ w0, Below w7.heap.size w7 w0 → Calls Tryz.prog 67 #[.pointer (some ⟨M, 0, none⟩)] w0 fun e w' => ∃ (a' : Option Addr) (n' c' : Nat), e = .returned (.slice a' n' c') ∧ Hid ((nfA l).length = n') ∧ Hid (EdgesOwn w0.heap.size w'.heap.size w' a' (nfA l)) ∧ Hid (Below w0.heap.size w0 w')) := fun w0 h => by
        have hs : Sg M H w0 (.slice (some ⟨sg, 0, none⟩) (k + 1) sc) (.slice la4 q lc4) ⟨t.lb, nfB l⟩ := ⟨HSG7.out.blk.of_block (h.block _ HSG7.out.blk.lt), own_below HSG7.out.lab h, HSG7.out.off⟩
        refine (arcs_any M H _ _ _ w0 hs HLT2.out.1 (fun a b _ _ hb => by have h := nfB_lt HOK.out.symm HLT.out hb; rw [← HTT.out] at h; exact h)).mono ?_
        rintro e w' ⟨a', n', c', L, rfl, h1, h2, h3, h4⟩
        have hL : L = nfA l := arcs_are HOK.out.symm HLT.out (by rw [← HTT.out]; exact h2.out.1) h2.out.2
        subst hL
        exact ⟨a', n', c', rfl, h1, h3, h4⟩
      have HEN : Hid (nfE l = (List.range q).map fun i => if i = 0 then ynl else YG i) := by
        show _ = _
        unfold nfE
        rw [← HLT2.out.2, ← HQQ.out]
        refine List.map_congr_left fun i _ => ?_
        have h := ends_are HOK.out.symm HLT.out i
        rw [← HYY.out] at h
        exact h.symm
      have HEL : Hid ((nfE l).length = q) := by show _ = _; rw [HEN.out]; simp
      have HPC : Hid (∀ i, i < q → w7.cell? ⟨P, 25 + i, none⟩ = some (.bool ((nfE l).getD i false))) := fun i hi => by
        have h := HP7.out.get (k := 25 + i) (by have := HQQ.out; have := HLT2.out.1; omega)
        rw [h, stF_last, HEN.out]
        simp [List.getD, hi]
      have HP7L : Hid (P < w7.heap.size) := HP7.out.lt
      clear HM7 HL7 HP7 HSG4
      obtain ⟨V, HV⟩ : ∃ V, Hid (V = w7.drew) := ⟨_, rfl⟩
      have HBD : Hid (Below w7.heap.size w7 V) := by rw [HV.out]; exact (Below.refl _ _).drew
      refine wp_region_held_drew (S := fun _ => True) (by kernel_rfl) trivial (fun hHeld => ?_)
      rw [← HV.out]
      refine wpAnyH_take (i := 0) (oi := { dst := some 41, op := Op.move (.tmp 8), type := 3, pos := "l07_nfa.go:58", after := #[], guard := none }) (v := ?_) rfl (by kernel_rfl) (by kernel_rfl) (by kernel_rfl) (fun _ _ _ h => h) (Or.inl ⟨by kernel_rfl, ?_⟩) (by assumption) ?_
      rotate_left
      · intro w hSw; (try dsimp only at hSw); go_simp; try with_reducible rfl
      simp only [Act.put, List.setIfInBounds_toArray, List.set_cons_zero, List.set_cons_succ]
      refine wpAnyH_take (i := 2) (oi := { dst := some 43, op := Op.fieldAddr 121 (.tmp 7) 2, type := 0, pos := "l07_nfa.go:58", after := #[], guard := none }) (v := ?_) rfl (by kernel_rfl) (by kernel_rfl) (by kernel_rfl) (fun _ _ _ h => h) (Or.inl ⟨by kernel_rfl, ?_⟩) (by assumption) ?_
      rotate_left
      · intro w hSw; (try dsimp only at hSw); go_simp; try with_reducible rfl
      simp only [Act.put, List.setIfInBounds_toArray, List.set_cons_zero, List.set_cons_succ]
      refine wpAnyH_take (i := 3) (oi := { dst := some 44, op := Op.move (.tmp 8), type := 3, pos := "l07_nfa.go:58", after := #[], guard := none }) (v := ?_) rfl (by kernel_rfl) (by kernel_rfl) (by kernel_rfl) (fun _ _ _ h => h) (Or.inl ⟨by kernel_rfl, ?_⟩) (by assumption) ?_
      rotate_left
      · intro w hSw; (try dsimp only at hSw); go_simp; try with_reducible rfl
      simp only [Act.put, List.setIfInBounds_toArray, List.set_cons_zero, List.set_cons_succ]
      refine wpAnyH_take (i := 4) (oi := { dst := some 45, op := Op.slice 116 (.tmp 43) none (some (.tmp 44)) none, type := 78, pos := "l07_nfa.go:58", after := #[{ on := 2, ground := .data }, { on := 3, ground := .data }], guard := none }) (v := ?_) rfl (by kernel_rfl) (by kernel_rfl) (by kernel_rfl) (fun _ _ _ h => h) (Or.inl ⟨by kernel_rfl, ?_⟩) (by assumption) ?_
      rotate_left
      · intro w hSw; (try dsimp only at hSw); go_simp; try with_reducible rfl
      simp only [Act.put, List.setIfInBounds_toArray, List.set_cons_zero, List.set_cons_succ]
      refine wpAnyH_ready (rs := [1]) (by kernel_rfl) (by simp) ?_
      refine AllReadyH.cons (o := { dst := some 42, op := Op.call { callee := Callee.value (.func 67), args := #[.tmp 6], argTypes := #[119] }, type := 77, pos := "l07_nfa.go:58", after := #[], guard := none }) rfl (fun K hK => ?_) ?_
      · go_simp
        go_wp2_with (go_at_call 67; refine (HCA.out _ HBD.out).mono ?_; rintro e w8 ⟨a8, n8, c8, rfl, HN8, HE8, HB8⟩)
        have HBV8 : Hid (Below w7.heap.size w7 w8) := HBD.out.trans (HB8.out.mono HBD.out.size)
        refine hK.out _ _ trivial (fun hHeld => ?_)
        clear hK K
        try simp only [Act.put, List.setIfInBounds_toArray, List.set_cons_zero, List.set_cons_succ]
        refine wpAnyH_ready (rs := [5]) (by kernel_rfl) (by simp) ?_
        refine AllReadyH.cons (o := { dst := some 46, op := Op.call { callee := Callee.value (.func 68), args := #[.tmp 45], argTypes := #[78] }, type := 78, pos := "l07_nfa.go:58", after := #[{ on := 4, ground := .data }, { on := 1, ground := .chain }], guard := none }) rfl (fun K hK => ?_) ?_
        · go_simp
          go_wp2_with (go_at_call 68; refine (cloneB_any P 25 q 24 (nfE l) w8 (fun i hi => cell_below (HPC.out i hi) HBV8.out HP7L.out) (by have := HP7L.out; have := HBV8.out.size; omega) HEL.out (by omega)).mono ?_; rintro e w9 ⟨a9, c9, rfl, HE9, HB9⟩)
          have HBV9 : Hid (Below w7.heap.size w7 w9) := HBV8.out.trans (HB9.out.mono HBV8.out.size)
          have HR9 : Hid (Blk w9 (B + 1) 3 (k3 (.int .i64 0) (.slice none 0 0) (.slice none 0 0))) := HR7.out.of_block (HBV9.out.block _ HR7.out.lt)
          refine hK.out _ _ trivial (fun hHeld => ?_)
          clear hK K
          try simp only [Act.put, List.setIfInBounds_toArray, List.set_cons_zero, List.set_cons_succ]
          refine wpAnyH_take (i := 6) (oi := { dst := some 47, op := Op.build 80 #[(0, .tmp 41), (1, .tmp 42), (2, .tmp 46)], type := 80, pos := "l07_nfa.go:58", after := #[{ on := 0, ground := .data }, { on := 1, ground := .data }, { on := 5, ground := .data }], guard := none }) (v := ?_) rfl (by kernel_rfl) (by kernel_rfl) (by kernel_rfl) (fun _ _ _ h => h) (Or.inl ⟨by kernel_rfl, ?_⟩) (by assumption) ?_
          rotate_left
          · intro w hSw; (try dsimp only at hSw); go_simp; try with_reducible rfl
          simp only [Act.put, List.setIfInBounds_toArray, List.set_cons_zero, List.set_cons_succ]
          refine wpAnyH_ready (rs := [7]) (by kernel_rfl) (by simp) ?_
          refine AllReadyH.cons (o := { dst := none, op := Op.store 80 (.tmp 2) (.tmp 47), type := 0, pos := "l07_nfa.go:58", after := #[{ on := 6, ground := .data }, { on := 5, ground := .chain }, { on := 0, ground := .phase }, { on := 1, ground := .phase }, { on := 2, ground := .phase }, { on := 3, ground := .phase }, { on := 4, ground := .phase }, { on := 5, ground := .phase }, { on := 6, ground := .phase }], guard := none }) rfl (fun K hK => ?_) ?_
          · have b1 := HR9.out.set 0 (by omega) (.int .i64 (q : Int))
            have b2 := b1.set 1 (by omega) (.slice a8 n8 c8)
            have q0 : w9.cell? ⟨B + 1, 0, none⟩ = some (.int .i64 0) := HR9.out.cell (i := 0) (by omega)
            have q1 : (w9.setCell ⟨B + 1, 0, none⟩ (.int .i64 (q : Int))).cell? ⟨B + 1, 1, none⟩ = some (.slice none 0 0) := b1.cell (i := 1) (by omega)
            have q2 : ((w9.setCell ⟨B + 1, 0, none⟩ (.int .i64 (q : Int))).setCell ⟨B + 1, 1, none⟩ (.slice a8 n8 c8)).cell? ⟨B + 1, 2, none⟩ = some (.slice none 0 0) := b2.cell (i := 2) (by omega)
            have q3 := HR9.out.frozen 0
            have q4 := b1.frozen 1
            have q5 := b2.frozen 2
            clear b1 b2
            go_simp
            refine hK.out _ _ trivial (fun hHeld => ?_)
            clear hK K
            try simp only [Act.put, List.setIfInBounds_toArray, List.set_cons_zero, List.set_cons_succ]
            refine wpAnyH_take (i := 8) (oi := { dst := some 3, op := Op.assign (.const (Value.bool true)), type := 4, pos := "l07_nfa.go:58", after := #[{ on := 7, ground := .chain }, { on := 0, ground := .phase }, { on := 1, ground := .phase }, { on := 2, ground := .phase }, { on := 3, ground := .phase }, { on := 4, ground := .phase }, { on := 5, ground := .phase }, { on := 6, ground := .phase }, { on := 7, ground := .phase }], guard := none }) (v := ?_) rfl (by kernel_rfl) (by kernel_rfl) (by kernel_rfl) (fun _ _ _ h => h) (Or.inl ⟨by kernel_rfl, ?_⟩) (by assumption) ?_
            rotate_left
            · intro w hSw; (try dsimp only at hSw); go_simp; try with_reducible rfl
            simp only [Act.put, List.setIfInBounds_toArray, List.set_cons_zero, List.set_cons_succ]
            refine wpAnyH_done (by kernel_rfl) ?_ _
            clear hHeld q0 q1 q2 q3 q4 q5
            go_wp2_with fail
            obtain rfl : FF = Tryz.f48 := HFF.out
            refine bodyPost_ret (results_row2 (k := 2) (m := 3) (t := 80) (b := B + 1) Tryz.results48 rfl rfl (load_nfa (k3_put HR9.out _ _ _))) rfl ?_
            show ImPost l w (.returned (.tuple #[.agg #[.int .i64 (q : Int), .slice a8 n8 c8, .slice a9 q c9], .bool true])) (w9.setCells (B + 1) 0 [.int .i64 (q : Int), .slice a8 n8 c8, .slice a9 q c9])
            have hks := kp_set3 w9 (B + 1) (.int .i64 (q : Int)) (.slice a8 n8 c8) (.slice a9 q c9)
            have hB1 : ∀ c, c = B + 1 → w.heap.size ≤ c ∧ c < M := fun c e => by have := HB.out; have := HM.out; have := HHW.out; omega
            have hM7 : M < w7.heap.size := HSG7.out.blk.lt
            refine ⟨(q : Int), a8, n8, c8, a9, q, c9, by rw [HNG.out], ?_, ?_, ?_, ⟨w8.heap.size, ?_, ?_, ?_, ?_⟩, (HBW7.out.trans (HBV9.out.mono HBW7.out.size)).trans (hks.to_below (Nat.le_trans HBW7.out.size HBV9.out.size) (fun c e => (hB1 c e).1))⟩
            · show _ = _; unfold nfSt; rw [if_pos HNG.out, HQQ.out, HLT2.out.2]
            · show _ = _; unfold nfAr; rw [if_pos HNG.out]; exact HN8.out
            · show _ = _; unfold nfEn; rw [if_pos HNG.out]; exact HEL.out
            · have := HBW7.out.size; have := HBV8.out.size; omega
            · have := HB9.out.size; have := hks.size; omega
            · unfold nfAr
              rw [if_pos HNG.out]
              exact ((HE8.out.below HB9.out (Nat.le_refl _)).kept hks (fun c h1 h2 e => by have := hB1 c e; have := HBD.out.size; omega)).wide (by have := HBW7.out.size; have := HBD.out.size; omega) (Nat.le_refl _)
            · unfold nfEn
              rw [if_pos HNG.out]
              exact (HE9.out.kept hks (fun c h1 h2 e => by have := hB1 c e; have := HBV8.out.size; omega)).wide (Nat.le_refl _) hks.size
          exact AllReadyH.nil
        exact AllReadyH.nil
      exact AllReadyH.nil
    · have HNG : Hid (nfG l = false) := by show _ = _; unfold nfG; rw [decide_eq_false hlt, Bool.and_false]
      have hcc1 : (1 + (cs : Int)) > 24 := by have := HCV.out; omega
      have hcc2 : (24 : Int) < 1 + (cs : Int) := by have := HCV.out; omega
      go_upto_region 3 with (go_at_call 65; refine (HCS.out).mono ?_; rintro e w2 ⟨rfl, HB2⟩)
      have HR4 : Hid (Blk w2 (B + 1) 3 (k3 (.int .i64 0) (.slice none 0 0) (.slice none 0 0))) := HR1.out.of_block (HB2.out.block _ HR1.out.lt)
      have HBW4 : Hid (Below w.heap.size w w2) := HBW1.out.trans (HB2.out.mono HBW1.out.size)
      have b1 := HR4.out.set 0 (by omega) (.int .i64 0)
      have b2 := b1.set 1 (by omega) (.slice none 0 0)
      have q0 : w2.cell? ⟨B + 1, 0, none⟩ = some (.int .i64 0) := HR4.out.cell (i := 0) (by omega)
      have q1 : (w2.setCell ⟨B + 1, 0, none⟩ (.int .i64 0)).cell? ⟨B + 1, 1, none⟩ = some (.slice none 0 0) := b1.cell (i := 1) (by omega)
      have q2 : ((w2.setCell ⟨B + 1, 0, none⟩ (.int .i64 0)).setCell ⟨B + 1, 1, none⟩ (.slice none 0 0)).cell? ⟨B + 1, 2, none⟩ = some (.slice none 0 0) := b2.cell (i := 2) (by omega)
      have q3 := HR4.out.frozen 0
      have q4 := b1.frozen 1
      have q5 := b2.frozen 2
      clear b1 b2
      go_wp2_with fail
      obtain rfl : FF = Tryz.f48 := HFF.out
      refine bodyPost_ret (results_row2 (k := 2) (m := 3) (t := 80) (b := B + 1) Tryz.results48 rfl rfl (load_nfa (k3_put HR4.out _ _ _))) rfl ?_
      exact HEND.out _ HR4.out HBW4.out HNG.out
  · subst hok
    have HNG : Hid (nfG l = false) := by show _ = _; unfold nfG; rw [← HOK.out]; rfl
    have HR4 := HR1
    have HBW4 := HBW1
    go_upto_region 3 with fail
    have b1 := HR4.out.set 0 (by omega) (.int .i64 0)
    have b2 := b1.set 1 (by omega) (.slice none 0 0)
    have q0 : w1.cell? ⟨B + 1, 0, none⟩ = some (.int .i64 0) := HR4.out.cell (i := 0) (by omega)
    have q1 : (w1.setCell ⟨B + 1, 0, none⟩ (.int .i64 0)).cell? ⟨B + 1, 1, none⟩ = some (.slice none 0 0) := b1.cell (i := 1) (by omega)
    have q2 : ((w1.setCell ⟨B + 1, 0, none⟩ (.int .i64 0)).setCell ⟨B + 1, 1, none⟩ (.slice none 0 0)).cell? ⟨B + 1, 2, none⟩ = some (.slice none 0 0) := b2.cell (i := 2) (by omega)
    have q3 := HR4.out.frozen 0
    have q4 := b1.frozen 1
    have q5 := b2.frozen 2
    clear b1 b2
    go_wp2_with fail
    obtain rfl : FF = Tryz.f48 := HFF.out
    refine bodyPost_ret (results_row2 (k := 2) (m := 3) (t := 80) (b := B + 1) Tryz.results48 rfl rfl (load_nfa (k3_put HR4.out _ _ _))) rfl ?_
    exact HEND.out _ HR4.out HBW4.out HNG.out
end Go.Proofs.YtbepmeipjdpipaaGreat

namespace Go.Proofs.YtbepmeipjdpipaaGreat
open Go.RowKit

def LaidO (B : Nat) (w : World) (v : Value) (l : List Pc) (U : Nat → Prop) : Prop :=
  ∃ (f : Nat → Value) (R : Nat → Option Addr) (C : Nat → Nat), w.ownsRow B 127 3 v l.length ((List.range (l.length * 3)).map f) ∧
    (∀ c, v.ownBlock = some c → U c) ∧ (∀ c, U c → B ≤ c ∧ c < w.heap.size) ∧
    ∀ i, i < l.length → (f (i * 3) = .int .i64 (pat l i).1 ∧ f (i * 3 + 1) = .int .u8 (pat l i).2.1 ∧ f (i * 3 + 2) = .slice (R i) (pat l i).2.2.length (C i)) ∧ RowOwn B w.heap.size w (R i) (pat l i).2.2 ∧
      ((pat l i).2.2 ≠ [] → (∀ c, R i = some ⟨c, 0, none⟩ → U c ∧ v.ownBlock ≠ some c) ∧ ∀ j, j < i → (pat l j).2.2 ≠ [] → R j ≠ R i)

theorem LaidO.nil (B : Nat) (w : World) : LaidO B w (.slice none 0 0) [] (fun _ => False) :=
  ⟨fun _ => .int .i64 0, fun _ => none, fun _ => 0, by simpa using World.ownsRow_nil w B 127 3, fun c h => by simp [Value.ownBlock] at h, fun c h => h.elim, fun i hi => absurd hi (by simp)⟩
theorem LaidO.lt {B : Nat} {w : World} {v : Value} {l : List Pc} {U : Nat → Prop} (h : LaidO B w v l U) {c : Nat} (hc : U c) : B ≤ c ∧ c < w.heap.size := by
  obtain ⟨_, _, _, _, _, h3, _⟩ := h; exact h3 c hc
theorem LaidO.blk {B : Nat} {w : World} {v : Value} {l : List Pc} {U : Nat → Prop} (h : LaidO B w v l U) {c : Nat} (hc : v.ownBlock = some c) : U c := by
  obtain ⟨_, _, _, _, h2, _, _⟩ := h; exact h2 c hc
theorem LaidO.kept {B : Nat} {w w' : World} {v : Value} {l : List Pc} {U : Nat → Prop} {p : Nat → Prop} (h : LaidO B w v l U) (hb : KeptP p w w') (hp : ∀ c, U c → ¬ p c) : LaidO B w' v l U := by
  obtain ⟨f, R, C, h1, h2, h3, h4⟩ := h
  refine ⟨f, R, C, ?_, h2, fun c hc => ⟨(h3 c hc).1, Nat.lt_of_lt_of_le (h3 c hc).2 hb.size⟩, fun i hi => ⟨(h4 i hi).1, ?_, (h4 i hi).2.2⟩⟩
  · refine ⟨h1.1, ?_⟩
    rcases h1.2 with h5 | ⟨g, cap, cur, e, h5, h6, h7⟩
    · exact .inl h5
    · have hg : U g := h2 g (by rw [e]; rfl)
      exact .inr ⟨g, cap, cur, e, h5, by rw [hb.block g (h3 g hg).2 (hp g hg)]; exact h6, h7⟩
  · by_cases h0 : (pat l i).2.2 = []
    · exact .inl h0
    · rcases (h4 i hi).2.1 with h5 | ⟨g, e, h5, h6, h7⟩
      · exact absurd h5 h0
      · have hg : U g := (((h4 i hi).2.2 h0).1 g e).1
        exact .inr ⟨g, e, h5, Nat.lt_of_lt_of_le h6 hb.size, h7.of_block (hb.block g (h3 g hg).2 (hp g hg))⟩
theorem LaidO.below {B : Nat} {w w' : World} {v : Value} {l : List Pc} {U : Nat → Prop} (h : LaidO B w v l U) (hb : Below w.heap.size w w') : LaidO B w' v l U :=
  h.kept (p := fun _ => False) (KeptP.of_below hb (fun _ hk _ => hk)) (fun _ _ h => h)
theorem LaidO.toOwn {B : Nat} {w : World} {v : Value} {l : List Pc} {U : Nat → Prop} (h : LaidO B w v l U) : ∃ a cap, v = .slice a l.length cap ∧ PathOwn B w.heap.size w a l := by
  obtain ⟨f, R, C, h1, h2, h3, h4⟩ := h
  rcases h1.2 with ⟨rfl, h0⟩ | ⟨g, cap, cur, rfl, hg, hb, _⟩
  · exact ⟨none, 0, by rw [h0], .inl (List.length_eq_zero_iff.1 h0)⟩
  · refine ⟨_, cap, rfl, .inr ⟨g, rfl, hg, (Array.getElem?_eq_some_iff.1 hb).1, f, R, C, (blk_own h1).congr (fun i hi => by simp [List.getD, hi]), fun i hi => ?_⟩⟩
    obtain ⟨⟨e0, e1, e2⟩, e3, e4⟩ := h4 i hi
    refine ⟨e0, e1, e2, e3, fun hne => ⟨fun c hc e => ?_, (e4 hne).2⟩⟩
    exact ((e4 hne).1 c hc).2 (by rw [e]; rfl)
theorem pat_app {l : List Pc} {x : Pc} {i : Nat} (h : i < l.length) : pat (l ++ [x]) i = pat l i := by simp [pat, List.getD, List.getElem?_append_left h]
theorem pat_last (l : List Pc) (x : Pc) : pat (l ++ [x]) l.length = x := by simp [pat, List.getD]

theorem LaidO.snoc {B g cap : Nat} {w w1 : World} {v : Value} {l : List Pc} {U : Nat → Prop} {x : Pc} {f : Nat → Value} {R : Nat → Option Addr} {C : Nat → Nat} {ra : Option Addr} {rc : Nat}
    (h2 : ∀ c, v.ownBlock = some c → U c) (h3 : ∀ c, U c → B ≤ c ∧ c < w.heap.size)
    (h4 : ∀ i, i < l.length → (f (i * 3) = .int .i64 (pat l i).1 ∧ f (i * 3 + 1) = .int .u8 (pat l i).2.1 ∧ f (i * 3 + 2) = .slice (R i) (pat l i).2.2.length (C i)) ∧ RowOwn B w.heap.size w (R i) (pat l i).2.2 ∧
      ((pat l i).2.2 ≠ [] → (∀ c, R i = some ⟨c, 0, none⟩ → U c ∧ v.ownBlock ≠ some c) ∧ ∀ j, j < i → (pat l j).2.2 ≠ [] → R j ≠ R i))
    (hr : RowOwn B w.heap.size w ra x.2.2) (hra : x.2.2 ≠ [] → ∀ c, ra = some ⟨c, 0, none⟩ → ¬ U c) (hg : w.grownBy w1 v.ownBlock) (hloc : v.ownBlock = some g ∨ w.heap.size ≤ g) (hgl : g < w1.heap.size) (hBg : B ≤ g)
    (ho : w1.ownsRow B 127 3 (.slice (some ⟨g, 0, none⟩) (l.length + 1) cap) (l.length + 1) ((List.range (l.length * 3)).map f ++ [.int .i64 x.1, .int .u8 x.2.1, .slice ra x.2.2.length rc])) :
    LaidO B w1 (.slice (some ⟨g, 0, none⟩) (l.length + 1) cap) (l ++ [x]) (fun c => U c ∨ c = g ∨ (x.2.2 ≠ [] ∧ ra = some ⟨c, 0, none⟩)) := by
  have keep : ∀ {a : Option Addr} {r : List Int}, RowOwn B w.heap.size w a r → (r ≠ [] → ∀ c, a = some ⟨c, 0, none⟩ → v.ownBlock ≠ some c) → RowOwn B w1.heap.size w1 a r := by
    intro a r ha hne
    by_cases h0 : r = []
    · exact .inl h0
    · rcases ha with h | ⟨c, e, h5, h6, h7⟩
      · exact absurd h h0
      · exact .inr ⟨c, e, h5, Nat.lt_of_lt_of_le h6 hg.size, h7.of_block (hg.block c h6 (fun e2 => hne h0 c e e2.symm))⟩
  have hlt : ∀ {a : Option Addr} {r : List Int}, RowOwn B w.heap.size w a r → r ≠ [] → ∀ c, a = some ⟨c, 0, none⟩ → c < w.heap.size := by
    intro a r ha hne c hc
    rcases ha with h | ⟨c', e, _, h6, _⟩
    · exact absurd h hne
    · rw [hc] at e; simp at e; omega
  have hoff : ∀ c, c < w.heap.size → v.ownBlock ≠ some c → (Value.slice (some ⟨g, 0, none⟩) (l.length + 1) cap).ownBlock ≠ some c := by
    intro c hc hne e
    have e2 : g = c := by simpa [Value.ownBlock] using e
    subst e2
    rcases hloc with h | h
    · exact hne h
    · omega
  refine ⟨fun j => if j < l.length * 3 then f j else if j = l.length * 3 then .int .i64 x.1 else if j = l.length * 3 + 1 then .int .u8 x.2.1 else .slice ra x.2.2.length rc, fun i => if i < l.length then R i else ra, fun i => if i < l.length then C i else rc, ?_, ?_, ?_, fun i hi => ?_⟩
  · rw [List.length_append, List.length_singleton]
    have e2 : (List.range ((l.length + 1) * 3)).map (fun j => if j < l.length * 3 then f j else if j = l.length * 3 then Value.int .i64 x.1 else if j = l.length * 3 + 1 then .int .u8 x.2.1 else .slice ra x.2.2.length rc) = (List.range (l.length * 3)).map f ++ [.int .i64 x.1, .int .u8 x.2.1, .slice ra x.2.2.length rc] := by
      rw [show (l.length + 1) * 3 = l.length * 3 + 1 + 1 + 1 by omega, List.range_succ, List.range_succ, List.range_succ]
      simp only [List.map_append, List.append_assoc]
      congr 1
      · exact List.map_congr_left fun j hj => by simp [List.mem_range.1 hj]
      · have n1 : ¬ l.length * 3 < l.length * 3 := by omega
        have n2 : ¬ l.length * 3 + 1 < l.length * 3 := by omega
        have n3 : ¬ l.length * 3 + 1 + 1 < l.length * 3 := by omega
        have n4 : ¬ l.length * 3 + 1 = l.length * 3 := by omega
        have n5 : ¬ l.length * 3 + 1 + 1 = l.length * 3 := by omega
        have n6 : ¬ l.length * 3 + 1 + 1 = l.length * 3 + 1 := by omega
        simp only [List.map_cons, List.map_nil, List.cons_append, List.nil_append, n1, n2, n3, n4, n5, n6, if_false, if_true]
    rw [e2]; exact ho
  · intro c hc
    right; left
    have : g = c := by simpa [Value.ownBlock] using hc
    exact this.symm
  · intro c hc
    rcases hc with hc | rfl | ⟨hne, hc⟩
    · exact ⟨(h3 c hc).1, Nat.lt_of_lt_of_le (h3 c hc).2 hg.size⟩
    · exact ⟨hBg, hgl⟩
    · rcases hr with h | ⟨c', e, h5, h6, _⟩
      · exact absurd h hne
      · rw [hc] at e; simp at e; subst e; exact ⟨h5, Nat.lt_of_lt_of_le h6 hg.size⟩
  · rw [List.length_append, List.length_singleton] at hi
    rcases Nat.lt_or_ge i l.length with h | h
    · rw [pat_app h]
      obtain ⟨⟨e0, e1, e2⟩, e3, e4⟩ := h4 i h
      simp only [h, if_true]
      refine ⟨⟨by rw [if_pos (by omega)]; exact e0, by rw [if_pos (by omega)]; exact e1, by rw [if_pos (by omega)]; exact e2⟩, keep e3 (fun hne c hc => ((e4 hne).1 c hc).2), fun hne => ⟨fun c hc => ⟨.inl ((e4 hne).1 c hc).1, hoff c (hlt e3 hne c hc) ((e4 hne).1 c hc).2⟩, fun j hj hnj => ?_⟩⟩
      have hjl : j < l.length := by omega
      rw [pat_app hjl] at hnj
      simp only [hjl, if_true]
      exact (e4 hne).2 j hj hnj
    · obtain rfl : i = l.length := by omega
      rw [pat_last]
      simp only [Nat.lt_irrefl, if_false]
      have hvo : x.2.2 ≠ [] → ∀ c, ra = some ⟨c, 0, none⟩ → v.ownBlock ≠ some c := fun hne c hc e => hra hne c hc (h2 c e)
      have n2 : ¬ l.length * 3 + 1 < l.length * 3 := by omega
      have n3 : ¬ l.length * 3 + 2 < l.length * 3 := by omega
      refine ⟨⟨by simp, by simp [n2], by simp [n3]⟩, keep hr hvo, fun hne => ⟨fun c hc => ⟨.inr (.inr ⟨hne, hc⟩), hoff c (hlt hr hne c hc) (hvo hne c hc)⟩, fun j hj hnj => ?_⟩⟩
      rw [pat_app hj] at hnj
      simp only [hj, if_true]
      intro e
      obtain ⟨_, e3, e4⟩ := h4 j hj
      rcases e3 with h5 | ⟨c, ec, _, _, _⟩
      · exact hnj h5
      · exact hra hne c (by rw [← e]; exact ec) (((e4 hnj).1 c ec).1)
theorem LaidO.mono {B : Nat} {w : World} {v : Value} {l : List Pc} {U : Nat → Prop} (h : LaidO B w v l U) {B' : Nat} (hB : B' ≤ B) : LaidO B' w v l U := by
  obtain ⟨f, R, C, h1, h2, h3, h4⟩ := h
  refine ⟨f, R, C, ⟨h1.1, ?_⟩, h2, fun c hc => ⟨by have := (h3 c hc).1; omega, (h3 c hc).2⟩, fun i hi => ⟨(h4 i hi).1, (h4 i hi).2.1.wide hB (Nat.le_refl _), (h4 i hi).2.2⟩⟩
  rcases h1.2 with h5 | ⟨g, cap, cur, e, h5, h6⟩
  · exact .inl h5
  · exact .inr ⟨g, cap, cur, e, by omega, h6⟩
theorem news_pc (w2 : World) (x y z : Value) (T : TypeId) : ∀ j u, [x, y, z][j]? = some u → (w2.alloc (.cells #[x, y, z] T)).cell? ((⟨w2.heap.size, 0, none⟩ : Addr).add j) = some u := by
  intro j u hu
  obtain ⟨c0, c1, c2⟩ := box_cells w2 x y z T _ rfl
  rw [add_none, Nat.zero_add]
  match j, hu with
  | 0, hu => simp at hu; subst hu; exact c0
  | 1, hu => simp at hu; subst hu; exact c1
  | 2, hu => simp at hu; subst hu; exact c2
end Go.Proofs.YtbepmeipjdpipaaGreat
