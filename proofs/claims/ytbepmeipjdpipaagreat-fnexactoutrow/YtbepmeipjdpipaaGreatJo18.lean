import Derived.Test.YtbepmeipjdpipaaGreatJo17
namespace Go.Proofs.YtbepmeipjdpipaaGreat
open Go.RowKit
set_option maxHeartbeats 1000000 in
set_option maxRecDepth 100000 in
theorem sagain_any (M : Nat) (sh lv : Value) (bh : Nat → Nat → Bool) (nl : Bool) (f g : Nat → Bool) (w : World) (hm : Blk w M 578 (sgF sh lv bh)) :
  Calls Tryz.prog 82 #[.pointer (some ⟨M, 0, none⟩), stv nl f g] w fun e w' => e = .returned (stv nl f g) ∧ Hid (Blk w' M 578 (sgF sh lv (followB bh g f))) ∧ Hid (KeptP (fun c => c = M) w w') := by
 obtain ⟨c1, HC1⟩ : ∃ c, Hid (c = (bcells 49 (stF nl f g)).toArray) := ⟨_, rfl⟩
 have h1 : c1.size = 49 := by rw [HC1.out]; exact bcells_size _ _
 unfold stv
 rw [← HC1.out]
 obtain ⟨B, HB⟩ : ∃ B, Hid (B = w.heap.size) := ⟨_, rfl⟩
 obtain ⟨W, HW⟩ : ∃ W, Hid (W = (w.alloc (.cells c1 121)).alloc (.cells #[.bool false, .bool false, .bool false, .bool false, .bool false, .bool false, .bool false, .bool false, .bool false, .bool false, .bool false, .bool false, .bool false, .bool false, .bool false, .bool false, .bool false, .bool false, .bool false, .bool false, .bool false, .bool false, .bool false, .bool false, .bool false, .bool false, .bool false, .bool false, .bool false, .bool false, .bool false, .bool false, .bool false, .bool false, .bool false, .bool false, .bool false, .bool false, .bool false, .bool false, .bool false, .bool false, .bool false, .bool false, .bool false, .bool false, .bool false, .bool false, .bool false] 121)) := ⟨_, rfl⟩
 have HBW : Hid (Below w.heap.size w W) := by rw [HW.out]; exact below2 w _ _
 have HX : Hid (BBlk W B 49 (stF nl f g)) := by rw [HW.out, HC1.out]; exact Blk.alloc (BBlk.new w B HB.out 49 _ _) _
 have HZ : Hid (BBlk W (B + 1) 49 noB) := by rw [HW.out]; exact BBlk.zero49 _ (B + 1) (by rw [HB.out]; simp) _
 have HMB : Hid (M < B) := by rw [HB.out]; exact hm.lt
 have HMW : Hid (Blk W M 578 (sgF sh lv bh)) := hm.of_block (HBW.out.block _ hm.lt)
 clear hm
 go_enter Tryz.func82, Tryz.ntmps82
 obtain ⟨FF, HFF⟩ : ∃ F : Func, Hid (F = Tryz.f82) := ⟨_, rfl⟩
 rw [← HFF.out]
 go_upto_region 1 with fail
 rw [← HB.out]
 first | rw [← HW.out] | (rw [show _ = W from HW.out.symm])
 clear HW
 go_upto_region 2 with (first | (go_at_call 90; refine (follow_any M sh lv bh g f _ HMW.out).mono ?_; rintro e w1 ⟨rfl, HM1, HK1⟩) | (with_reducible refine wpList_here' ?_; first | (refine wpList_load_mid rfl 116 _ rfl B 25 rfl (bcells 24 g) _ (st_last HX.out) Tryz.underlying116 rfl (by rw [bcells_len]; exact info_set) ?_) | (refine wpList_load_mid rfl 116 _ rfl B 1 rfl (bcells 24 f) _ (st_first HX.out) Tryz.underlying116 rfl (by rw [bcells_len]; exact info_set) ?_)))
 have HX1 : Hid (BBlk w1 B 49 (stF nl f g)) := HK1.out.blk HX.out (by have := HMB.out; omega)
 have HZ1 : Hid (BBlk w1 (B + 1) 49 noB) := HK1.out.blk HZ.out (by have := HMB.out; omega)
 go_wp2_with (first | (with_reducible refine wpList_here' ?_; first | (refine wpList_load_mid rfl 121 _ rfl B 0 rfl (bcells 49 (stF nl f g)) _ HX1.out.all Tryz.underlying121 rfl (by rw [bcells_len]; exact info_st) ?_) | (refine wpList_store_mid rfl 121 _ _ rfl (B + 1) 0 (bcells 49 (stF nl f g)).toArray rfl rfl (by rw [bcells_size]; exact HZ1.out.there 0 49 (by omega)) (by rw [bcells_size]; exact info_st) (bcells_one _ _) ?_; dsimp only [Act.put])))
 obtain rfl : FF = Tryz.f82 := HFF.out
 have HR := Hid_mk (HZ1.out.put (stF nl f g))
 refine bodyPost_ret (results_row (k := 4) (t := 121) (b := B + 1) Tryz.results82 rfl (load_st HR.out)) rfl ?_
 have hks : KeptP (fun c => c = B + 1) w1 (w1.setCells (B + 1) 0 (bcells 49 (stF nl f g))) := KeptP.setCells (p := fun c => c = B + 1) (g := B + 1) rfl _ _ (kp_refl _ _)
 exact ⟨by rw [HC1.out], hks.blk HM1.out (by have := HMB.out; omega), kp_trans ((KeptP.of_below HBW.out (fun _ h _ => h)).trans HK1.out) hks (fun b hb e => by have := HB.out; omega)⟩
set_option maxHeartbeats 1000000 in
set_option maxRecDepth 100000 in
theorem sthen_yy (M : Nat) (sh lv : Value) (bh : Nat → Nat → Bool) (f g f' g' : Nat → Bool) (w : World) (hm : Blk w M 578 (sgF sh lv bh)) :
  Calls Tryz.prog 80 #[.pointer (some ⟨M, 0, none⟩), stv true f g, stv true f' g'] w fun e w' => e = .returned (stv true (orB f f') (orB g' g)) ∧ Hid (Blk w' M 578 (sgF sh lv (followB bh g f'))) ∧ Hid (KeptP (fun c => c = M) w w') := by
 obtain ⟨c1, HC1⟩ : ∃ c, Hid (c = (bcells 49 (stF true f g)).toArray) := ⟨_, rfl⟩
 obtain ⟨c2, HC2⟩ : ∃ c, Hid (c = (bcells 49 (stF true f' g')).toArray) := ⟨_, rfl⟩
 have h1 : c1.size = 49 := by rw [HC1.out]; exact bcells_size _ _
 have h2 : c2.size = 49 := by rw [HC2.out]; exact bcells_size _ _
 have hbd : ∀ w, (Instr.build 121 #[(0, .bool true), (1, sv f), (2, sv g')]).run Tryz.prog w = .ok (stv true f g') w := build_st _ _ _
 unfold stv
 rw [← HC1.out, ← HC2.out]
 obtain ⟨B, HB⟩ : ∃ B, Hid (B = w.heap.size) := ⟨_, rfl⟩
 obtain ⟨W, HW⟩ : ∃ W, Hid (W = ((w.alloc (.cells c1 121)).alloc (.cells c2 121)).alloc (.cells #[.bool false, .bool false, .bool false, .bool false, .bool false, .bool false, .bool false, .bool false, .bool false, .bool false, .bool false, .bool false, .bool false, .bool false, .bool false, .bool false, .bool false, .bool false, .bool false, .bool false, .bool false, .bool false, .bool false, .bool false, .bool false, .bool false, .bool false, .bool false, .bool false, .bool false, .bool false, .bool false, .bool false, .bool false, .bool false, .bool false, .bool false, .bool false, .bool false, .bool false, .bool false, .bool false, .bool false, .bool false, .bool false, .bool false, .bool false, .bool false, .bool false] 121)) := ⟨_, rfl⟩
 have HBW : Hid (Below w.heap.size w W) := by rw [HW.out]; exact below3 w _ _ _
 have HSW : Hid (W.heap.size = B + 3) := by rw [HW.out, HB.out]; show _ = _; simp
 have HX : Hid (BBlk W B 49 (stF true f g)) := by rw [HW.out, HC1.out]; exact Blk.alloc (Blk.alloc (BBlk.new w B HB.out 49 _ _) _) _
 have HY : Hid (BBlk W (B + 1) 49 (stF true f' g')) := by rw [HW.out, HC2.out]; exact Blk.alloc (BBlk.new _ (B + 1) (by rw [HB.out]; simp) 49 _ _) _
 have HZ : Hid (BBlk W (B + 1 + 1) 49 noB) := by rw [HW.out]; exact BBlk.zero49 _ (B + 1 + 1) (by rw [HB.out]; simp) _
 have HMB : Hid (M < B) := by rw [HB.out]; exact hm.lt
 have HMW : Hid (Blk W M 578 (sgF sh lv bh)) := hm.of_block (HBW.out.block _ hm.lt)
 clear hm
 go_enter Tryz.func80, Tryz.ntmps80
 obtain ⟨FF, HFF⟩ : ∃ F : Func, Hid (F = Tryz.f80) := ⟨_, rfl⟩
 rw [← HFF.out]
 go_upto_region 1 with fail
 rw [← HB.out]
 first | rw [← HW.out] | (rw [show _ = W from HW.out.symm])
 clear HW
 go_upto_region 2 with (first | (go_at_call 90; refine (follow_any M sh lv bh g f' _ HMW.out).mono ?_; rintro e w1 ⟨rfl, HM1, HK1⟩) | (with_reducible refine wpList_here' ?_; first | (refine wpList_load_mid rfl 116 _ rfl B 25 rfl (bcells 24 g) _ (st_last HX.out) Tryz.underlying116 rfl (by rw [bcells_len]; exact info_set) ?_) | (refine wpList_load_mid rfl 116 _ rfl (B + 1) 1 rfl (bcells 24 f') _ (st_first HY.out) Tryz.underlying116 rfl (by rw [bcells_len]; exact info_set) ?_)))
 have HX1 : Hid (BBlk w1 B 49 (stF true f g)) := HK1.out.blk HX.out (by have := HMB.out; omega)
 have HY1 : Hid (BBlk w1 (B + 1) 49 (stF true f' g')) := HK1.out.blk HY.out (by have := HMB.out; omega)
 have HZ1 : Hid (BBlk w1 (B + 1 + 1) 49 noB) := HK1.out.blk HZ.out (by have := HMB.out; omega)
 obtain ⟨D, HD⟩ : ∃ D, Hid (D = w1.heap.size) := ⟨_, rfl⟩
 have HDB : Hid (B + 3 ≤ D) := by have := HK1.out.size; have := HSW.out; have := HD.out; show _ ≤ _; omega
 obtain ⟨w2, HW2⟩ : ∃ x, Hid (x = (w1.alloc (.cells #[.bool false, .bool false, .bool false, .bool false, .bool false, .bool false, .bool false, .bool false, .bool false, .bool false, .bool false, .bool false, .bool false, .bool false, .bool false, .bool false, .bool false, .bool false, .bool false, .bool false, .bool false, .bool false, .bool false, .bool false, .bool false, .bool false, .bool false, .bool false, .bool false, .bool false, .bool false, .bool false, .bool false, .bool false, .bool false, .bool false, .bool false, .bool false, .bool false, .bool false, .bool false, .bool false, .bool false, .bool false, .bool false, .bool false, .bool false, .bool false, .bool false] 121)).setCells D 0 (bcells 49 (stF true f g'))) := ⟨_, rfl⟩
 have HDT : Hid ((w1.alloc (.cells #[.bool false, .bool false, .bool false, .bool false, .bool false, .bool false, .bool false, .bool false, .bool false, .bool false, .bool false, .bool false, .bool false, .bool false, .bool false, .bool false, .bool false, .bool false, .bool false, .bool false, .bool false, .bool false, .bool false, .bool false, .bool false, .bool false, .bool false, .bool false, .bool false, .bool false, .bool false, .bool false, .bool false, .bool false, .bool false, .bool false, .bool false, .bool false, .bool false, .bool false, .bool false, .bool false, .bool false, .bool false, .bool false, .bool false, .bool false, .bool false, .bool false] 121)).there w1.heap.size 0 49) := (BBlk.zero49 w1 _ rfl _).there 0 49 (by omega)
 have HD2 : Hid (BBlk w2 D 49 (stF true f g')) := by rw [HW2.out]; exact (BBlk.zero49 w1 D HD.out _).put _
 have HB2 : Hid (Below w1.heap.size w1 w2) := by rw [HW2.out]; exact Below.setCells (by have := HD.out; omega) _ _ (below1 w1 _)
 have n1 : w1.cell? ⟨B, 0, none⟩ = some (.bool true) := st_null HX1.out
 have n2 : w1.cell? ⟨B + 1, 0, none⟩ = some (.bool true) := st_null HY1.out
 go_upto_region 3 with (first | (with_reducible refine wpList_here' ?_; first | (refine wpList_load_mid rfl 116 _ rfl B 1 rfl (bcells 24 f) _ (st_first HX1.out) Tryz.underlying116 rfl (by rw [bcells_len]; exact info_set) ?_) | (refine wpList_load_mid rfl 116 _ rfl (B + 1) 25 rfl (bcells 24 g') _ (st_last HY1.out) Tryz.underlying116 rfl (by rw [bcells_len]; exact info_set) ?_) | (refine wpList_build rfl 121 _ rfl #[(0, .bool true), (1, sv f), (2, sv g')] (by kernel_rfl) (bcells 49 (stF true f g')).toArray hbd ?_) | (refine wpList_store_mid rfl 121 _ _ rfl w1.heap.size 0 (bcells 49 (stF true f g')).toArray rfl rfl (by rw [bcells_size]; exact HDT.out) (by rw [bcells_size]; exact info_st) (bcells_one _ _) ?_; dsimp only [Act.put])))
 rw [← HD.out]
 first | rw [← HW2.out] | (rw [show _ = w2 from HW2.out.symm])
 clear HW2 n1 n2 hbd HDT
 have HX2 : Hid (BBlk w2 B 49 (stF true f g)) := HX1.out.of (HB2.out.block _ HX1.out.lt)
 have HY2 : Hid (BBlk w2 (B + 1) 49 (stF true f' g')) := HY1.out.of (HB2.out.block _ HY1.out.lt)
 have HZ2 : Hid (BBlk w2 (B + 1 + 1) 49 noB) := HZ1.out.of (HB2.out.block _ HZ1.out.lt)
 have HM2 : Hid (Blk w2 M 578 (sgF sh lv (followB bh g f'))) := HM1.out.of_block (HB2.out.block _ HM1.out.lt)
 have HKW2 : Hid (KeptP (fun c => c = M) w w2) := kp_trans ((KeptP.of_below HBW.out (fun _ h _ => h)).trans HK1.out) (kp_below HB2.out) (fun b hb e => by have := HB.out; have := HDB.out; have := HD.out; omega)
 clear HX HY HZ HMW HX1 HY1 HZ1 HM1 HK1 HB2 HD
 have n1 : w2.cell? ⟨B, 0, none⟩ = some (.bool true) := st_null HX2.out
 go_upto_region 5 with (first | (go_at_call 91; refine (orS_any f f' _).mono ?_; rintro e w4 ⟨rfl, HB4⟩; have HD3 := Hid_mk (HD2.out.of (HB4.out.block _ HD2.out.lt))) | (with_reducible refine wpList_here' ?_; first | (refine wpList_load_mid rfl 116 _ rfl D 1 rfl (bcells 24 f) _ (st_first HD2.out) Tryz.underlying116 rfl (by rw [bcells_len]; exact info_set) ?_) | (refine wpList_load_mid rfl 116 _ rfl (B + 1) 1 rfl (bcells 24 f') _ (st_first HY2.out) Tryz.underlying116 rfl (by rw [bcells_len]; exact info_set) ?_) | (refine wpList_store_mid rfl 116 _ _ rfl D 1 (bcells 24 (orB f f')).toArray rfl rfl (by rw [bcells_size]; exact HD3.out.there 1 24 (by omega)) (by rw [bcells_size]; exact info_set) (bcells_one _ _) ?_; dsimp only [Act.put])))
 clear n1
 obtain ⟨w5, HW5⟩ : ∃ x, Hid (x = w4.setCells D 1 (bcells 24 (orB f f'))) := ⟨_, rfl⟩
 have HK5 : Hid (KeptP (fun c => c = D) w4 w5) := by rw [HW5.out]; exact KeptP.setCells (p := fun c => c = D) (g := D) rfl _ _ (kp_refl _ _)
 have HX5 : Hid (BBlk w5 B 49 (stF true f g)) := HK5.out.blk (HX2.out.of (HB4.out.block _ HX2.out.lt)) (by have := HDB.out; omega)
 have HY5 : Hid (BBlk w5 (B + 1) 49 (stF true f' g')) := HK5.out.blk (HY2.out.of (HB4.out.block _ HY2.out.lt)) (by have := HDB.out; omega)
 have HZ5 : Hid (BBlk w5 (B + 1 + 1) 49 noB) := HK5.out.blk (HZ2.out.of (HB4.out.block _ HZ2.out.lt)) (by have := HDB.out; omega)
 have HM5 : Hid (Blk w5 M 578 (sgF sh lv (followB bh g f'))) := HK5.out.blk (HM2.out.of_block (HB4.out.block _ HM2.out.lt)) (by have := HDB.out; have := HMB.out; omega)
 have HD5 : Hid (BBlk w5 D 49 (stF true (orB f f') g')) := by rw [HW5.out]; exact st_putFirst (HD2.out.of (HB4.out.block _ HD2.out.lt)) _
 have HKW5 : Hid (KeptP (fun c => c = M) w w5) := kp_trans (HKW2.out.trans (KeptP.of_below HB4.out (fun _ h _ => h))) HK5.out (fun b hb e => by have := HB.out; have := HDB.out; omega)
 first | rw [← HW5.out] | (rw [show _ = w5 from HW5.out.symm])
 clear HW5 HX2 HY2 HZ2 HM2 HD2 HKW2 HB4 HK5
 have n2 : w5.cell? ⟨B + 1, 0, none⟩ = some (.bool true) := st_null HY5.out
 go_upto_region 7 with (first | (go_at_call 91; refine (orS_any g' g _).mono ?_; rintro e w7 ⟨rfl, HB7⟩; have HD6 := Hid_mk (HD5.out.of (HB7.out.block _ HD5.out.lt))) | (with_reducible refine wpList_here' ?_; first | (refine wpList_load_mid rfl 116 _ rfl D 25 rfl (bcells 24 g') _ (st_last HD5.out) Tryz.underlying116 rfl (by rw [bcells_len]; exact info_set) ?_) | (refine wpList_load_mid rfl 116 _ rfl B 25 rfl (bcells 24 g) _ (st_last HX5.out) Tryz.underlying116 rfl (by rw [bcells_len]; exact info_set) ?_) | (refine wpList_store_mid rfl 116 _ _ rfl D 25 (bcells 24 (orB g' g)).toArray rfl rfl (by rw [bcells_size]; exact HD6.out.there 25 24 (by omega)) (by rw [bcells_size]; exact info_set) (bcells_one _ _) ?_; dsimp only [Act.put])))
 clear n2
 obtain ⟨w8, HW8⟩ : ∃ x, Hid (x = w7.setCells D 25 (bcells 24 (orB g' g))) := ⟨_, rfl⟩
 have HK8 : Hid (KeptP (fun c => c = D) w7 w8) := by rw [HW8.out]; exact KeptP.setCells (p := fun c => c = D) (g := D) rfl _ _ (kp_refl _ _)
 have HX8 : Hid (BBlk w8 B 49 (stF true f g)) := HK8.out.blk (HX5.out.of (HB7.out.block _ HX5.out.lt)) (by have := HDB.out; omega)
 have HY8 : Hid (BBlk w8 (B + 1) 49 (stF true f' g')) := HK8.out.blk (HY5.out.of (HB7.out.block _ HY5.out.lt)) (by have := HDB.out; omega)
 have HZ8 : Hid (BBlk w8 (B + 1 + 1) 49 noB) := HK8.out.blk (HZ5.out.of (HB7.out.block _ HZ5.out.lt)) (by have := HDB.out; omega)
 have HM8 : Hid (Blk w8 M 578 (sgF sh lv (followB bh g f'))) := HK8.out.blk (HM5.out.of_block (HB7.out.block _ HM5.out.lt)) (by have := HDB.out; have := HMB.out; omega)
 have HD8 : Hid (BBlk w8 D 49 (stF true (orB f f') (orB g' g))) := by rw [HW8.out]; exact st_putLast (HD5.out.of (HB7.out.block _ HD5.out.lt)) _
 have HKW8 : Hid (KeptP (fun c => c = M) w w8) := kp_trans (HKW5.out.trans (KeptP.of_below HB7.out (fun _ h _ => h))) HK8.out (fun b hb e => by have := HB.out; have := HDB.out; omega)
 first | rw [← HW8.out] | (rw [show _ = w8 from HW8.out.symm])
 clear HW8 HX5 HY5 HZ5 HM5 HD5 HKW5 HB7 HK8
 go_wp2_with (first | (with_reducible refine wpList_here' ?_; first | (refine wpList_load_mid rfl 121 _ rfl D 0 rfl (bcells 49 (stF true (orB f f') (orB g' g))) _ HD8.out.all Tryz.underlying121 rfl (by rw [bcells_len]; exact info_st) ?_) | (refine wpList_store_mid rfl 121 _ _ rfl (B + 1 + 1) 0 (bcells 49 (stF true (orB f f') (orB g' g))).toArray rfl rfl (by rw [bcells_size]; exact HZ8.out.there 0 49 (by omega)) (by rw [bcells_size]; exact info_st) (bcells_one _ _) ?_; dsimp only [Act.put])))
 obtain rfl : FF = Tryz.f80 := HFF.out
 have HR := Hid_mk (HZ8.out.put (stF true (orB f f') (orB g' g)))
 refine bodyPost_ret (results_row (k := 6) (t := 121) (b := B + 1 + 1) Tryz.results80 rfl (load_st HR.out)) rfl ?_
 have hks : KeptP (fun c => c = B + 1 + 1) w8 (w8.setCells (B + 1 + 1) 0 (bcells 49 (stF true (orB f f') (orB g' g)))) := KeptP.setCells (p := fun c => c = B + 1 + 1) (g := B + 1 + 1) rfl _ _ (kp_refl _ _)
 exact ⟨rfl, hks.blk HM8.out (by have := HMB.out; omega), kp_trans HKW8.out hks (fun b hb e => by have := HB.out; omega)⟩
set_option maxHeartbeats 1000000 in
set_option maxRecDepth 100000 in
theorem sthen_yn (M : Nat) (sh lv : Value) (bh : Nat → Nat → Bool) (f g f' g' : Nat → Bool) (w : World) (hm : Blk w M 578 (sgF sh lv bh)) :
  Calls Tryz.prog 80 #[.pointer (some ⟨M, 0, none⟩), stv true f g, stv false f' g'] w fun e w' => e = .returned (stv false (orB f f') g') ∧ Hid (Blk w' M 578 (sgF sh lv (followB bh g f'))) ∧ Hid (KeptP (fun c => c = M) w w') := by
 obtain ⟨c1, HC1⟩ : ∃ c, Hid (c = (bcells 49 (stF true f g)).toArray) := ⟨_, rfl⟩
 obtain ⟨c2, HC2⟩ : ∃ c, Hid (c = (bcells 49 (stF false f' g')).toArray) := ⟨_, rfl⟩
 have h1 : c1.size = 49 := by rw [HC1.out]; exact bcells_size _ _
 have h2 : c2.size = 49 := by rw [HC2.out]; exact bcells_size _ _
 have hbd : ∀ w, (Instr.build 121 #[(0, .bool false), (1, sv f), (2, sv g')]).run Tryz.prog w = .ok (stv false f g') w := build_st _ _ _
 unfold stv
 rw [← HC1.out, ← HC2.out]
 obtain ⟨B, HB⟩ : ∃ B, Hid (B = w.heap.size) := ⟨_, rfl⟩
 obtain ⟨W, HW⟩ : ∃ W, Hid (W = ((w.alloc (.cells c1 121)).alloc (.cells c2 121)).alloc (.cells #[.bool false, .bool false, .bool false, .bool false, .bool false, .bool false, .bool false, .bool false, .bool false, .bool false, .bool false, .bool false, .bool false, .bool false, .bool false, .bool false, .bool false, .bool false, .bool false, .bool false, .bool false, .bool false, .bool false, .bool false, .bool false, .bool false, .bool false, .bool false, .bool false, .bool false, .bool false, .bool false, .bool false, .bool false, .bool false, .bool false, .bool false, .bool false, .bool false, .bool false, .bool false, .bool false, .bool false, .bool false, .bool false, .bool false, .bool false, .bool false, .bool false] 121)) := ⟨_, rfl⟩
 have HBW : Hid (Below w.heap.size w W) := by rw [HW.out]; exact below3 w _ _ _
 have HSW : Hid (W.heap.size = B + 3) := by rw [HW.out, HB.out]; show _ = _; simp
 have HX : Hid (BBlk W B 49 (stF true f g)) := by rw [HW.out, HC1.out]; exact Blk.alloc (Blk.alloc (BBlk.new w B HB.out 49 _ _) _) _
 have HY : Hid (BBlk W (B + 1) 49 (stF false f' g')) := by rw [HW.out, HC2.out]; exact Blk.alloc (BBlk.new _ (B + 1) (by rw [HB.out]; simp) 49 _ _) _
 have HZ : Hid (BBlk W (B + 1 + 1) 49 noB) := by rw [HW.out]; exact BBlk.zero49 _ (B + 1 + 1) (by rw [HB.out]; simp) _
 have HMB : Hid (M < B) := by rw [HB.out]; exact hm.lt
 have HMW : Hid (Blk W M 578 (sgF sh lv bh)) := hm.of_block (HBW.out.block _ hm.lt)
 clear hm
 go_enter Tryz.func80, Tryz.ntmps80
 obtain ⟨FF, HFF⟩ : ∃ F : Func, Hid (F = Tryz.f80) := ⟨_, rfl⟩
 rw [← HFF.out]
 go_upto_region 1 with fail
 rw [← HB.out]
 first | rw [← HW.out] | (rw [show _ = W from HW.out.symm])
 clear HW
 go_upto_region 2 with (first | (go_at_call 90; refine (follow_any M sh lv bh g f' _ HMW.out).mono ?_; rintro e w1 ⟨rfl, HM1, HK1⟩) | (with_reducible refine wpList_here' ?_; first | (refine wpList_load_mid rfl 116 _ rfl B 25 rfl (bcells 24 g) _ (st_last HX.out) Tryz.underlying116 rfl (by rw [bcells_len]; exact info_set) ?_) | (refine wpList_load_mid rfl 116 _ rfl (B + 1) 1 rfl (bcells 24 f') _ (st_first HY.out) Tryz.underlying116 rfl (by rw [bcells_len]; exact info_set) ?_)))
 have HX1 : Hid (BBlk w1 B 49 (stF true f g)) := HK1.out.blk HX.out (by have := HMB.out; omega)
 have HY1 : Hid (BBlk w1 (B + 1) 49 (stF false f' g')) := HK1.out.blk HY.out (by have := HMB.out; omega)
 have HZ1 : Hid (BBlk w1 (B + 1 + 1) 49 noB) := HK1.out.blk HZ.out (by have := HMB.out; omega)
 obtain ⟨D, HD⟩ : ∃ D, Hid (D = w1.heap.size) := ⟨_, rfl⟩
 have HDB : Hid (B + 3 ≤ D) := by have := HK1.out.size; have := HSW.out; have := HD.out; show _ ≤ _; omega
 obtain ⟨w2, HW2⟩ : ∃ x, Hid (x = (w1.alloc (.cells #[.bool false, .bool false, .bool false, .bool false, .bool false, .bool false, .bool false, .bool false, .bool false, .bool false, .bool false, .bool false, .bool false, .bool false, .bool false, .bool false, .bool false, .bool false, .bool false, .bool false, .bool false, .bool false, .bool false, .bool false, .bool false, .bool false, .bool false, .bool false, .bool false, .bool false, .bool false, .bool false, .bool false, .bool false, .bool false, .bool false, .bool false, .bool false, .bool false, .bool false, .bool false, .bool false, .bool false, .bool false, .bool false, .bool false, .bool false, .bool false, .bool false] 121)).setCells D 0 (bcells 49 (stF false f g'))) := ⟨_, rfl⟩
 have HDT : Hid ((w1.alloc (.cells #[.bool false, .bool false, .bool false, .bool false, .bool false, .bool false, .bool false, .bool false, .bool false, .bool false, .bool false, .bool false, .bool false, .bool false, .bool false, .bool false, .bool false, .bool false, .bool false, .bool false, .bool false, .bool false, .bool false, .bool false, .bool false, .bool false, .bool false, .bool false, .bool false, .bool false, .bool false, .bool false, .bool false, .bool false, .bool false, .bool false, .bool false, .bool false, .bool false, .bool false, .bool false, .bool false, .bool false, .bool false, .bool false, .bool false, .bool false, .bool false, .bool false] 121)).there w1.heap.size 0 49) := (BBlk.zero49 w1 _ rfl _).there 0 49 (by omega)
 have HD2 : Hid (BBlk w2 D 49 (stF false f g')) := by rw [HW2.out]; exact (BBlk.zero49 w1 D HD.out _).put _
 have HB2 : Hid (Below w1.heap.size w1 w2) := by rw [HW2.out]; exact Below.setCells (by have := HD.out; omega) _ _ (below1 w1 _)
 have n1 : w1.cell? ⟨B, 0, none⟩ = some (.bool true) := st_null HX1.out
 have n2 : w1.cell? ⟨B + 1, 0, none⟩ = some (.bool false) := st_null HY1.out
 go_upto_region 3 with (first | (with_reducible refine wpList_here' ?_; first | (refine wpList_load_mid rfl 116 _ rfl B 1 rfl (bcells 24 f) _ (st_first HX1.out) Tryz.underlying116 rfl (by rw [bcells_len]; exact info_set) ?_) | (refine wpList_load_mid rfl 116 _ rfl (B + 1) 25 rfl (bcells 24 g') _ (st_last HY1.out) Tryz.underlying116 rfl (by rw [bcells_len]; exact info_set) ?_) | (refine wpList_build rfl 121 _ rfl #[(0, .bool false), (1, sv f), (2, sv g')] (by kernel_rfl) (bcells 49 (stF false f g')).toArray hbd ?_) | (refine wpList_store_mid rfl 121 _ _ rfl w1.heap.size 0 (bcells 49 (stF false f g')).toArray rfl rfl (by rw [bcells_size]; exact HDT.out) (by rw [bcells_size]; exact info_st) (bcells_one _ _) ?_; dsimp only [Act.put])))
 rw [← HD.out]
 first | rw [← HW2.out] | (rw [show _ = w2 from HW2.out.symm])
 clear HW2 n1 n2 hbd HDT
 have HX2 : Hid (BBlk w2 B 49 (stF true f g)) := HX1.out.of (HB2.out.block _ HX1.out.lt)
 have HY2 : Hid (BBlk w2 (B + 1) 49 (stF false f' g')) := HY1.out.of (HB2.out.block _ HY1.out.lt)
 have HZ2 : Hid (BBlk w2 (B + 1 + 1) 49 noB) := HZ1.out.of (HB2.out.block _ HZ1.out.lt)
 have HM2 : Hid (Blk w2 M 578 (sgF sh lv (followB bh g f'))) := HM1.out.of_block (HB2.out.block _ HM1.out.lt)
 have HKW2 : Hid (KeptP (fun c => c = M) w w2) := kp_trans ((KeptP.of_below HBW.out (fun _ h _ => h)).trans HK1.out) (kp_below HB2.out) (fun b hb e => by have := HB.out; have := HDB.out; have := HD.out; omega)
 clear HX HY HZ HMW HX1 HY1 HZ1 HM1 HK1 HB2 HD
 have n1 : w2.cell? ⟨B, 0, none⟩ = some (.bool true) := st_null HX2.out
 go_upto_region 5 with (first | (go_at_call 91; refine (orS_any f f' _).mono ?_; rintro e w4 ⟨rfl, HB4⟩; have HD3 := Hid_mk (HD2.out.of (HB4.out.block _ HD2.out.lt))) | (with_reducible refine wpList_here' ?_; first | (refine wpList_load_mid rfl 116 _ rfl D 1 rfl (bcells 24 f) _ (st_first HD2.out) Tryz.underlying116 rfl (by rw [bcells_len]; exact info_set) ?_) | (refine wpList_load_mid rfl 116 _ rfl (B + 1) 1 rfl (bcells 24 f') _ (st_first HY2.out) Tryz.underlying116 rfl (by rw [bcells_len]; exact info_set) ?_) | (refine wpList_store_mid rfl 116 _ _ rfl D 1 (bcells 24 (orB f f')).toArray rfl rfl (by rw [bcells_size]; exact HD3.out.there 1 24 (by omega)) (by rw [bcells_size]; exact info_set) (bcells_one _ _) ?_; dsimp only [Act.put])))
 clear n1
 obtain ⟨w5, HW5⟩ : ∃ x, Hid (x = w4.setCells D 1 (bcells 24 (orB f f'))) := ⟨_, rfl⟩
 have HK5 : Hid (KeptP (fun c => c = D) w4 w5) := by rw [HW5.out]; exact KeptP.setCells (p := fun c => c = D) (g := D) rfl _ _ (kp_refl _ _)
 have HX5 : Hid (BBlk w5 B 49 (stF true f g)) := HK5.out.blk (HX2.out.of (HB4.out.block _ HX2.out.lt)) (by have := HDB.out; omega)
 have HY5 : Hid (BBlk w5 (B + 1) 49 (stF false f' g')) := HK5.out.blk (HY2.out.of (HB4.out.block _ HY2.out.lt)) (by have := HDB.out; omega)
 have HZ5 : Hid (BBlk w5 (B + 1 + 1) 49 noB) := HK5.out.blk (HZ2.out.of (HB4.out.block _ HZ2.out.lt)) (by have := HDB.out; omega)
 have HM5 : Hid (Blk w5 M 578 (sgF sh lv (followB bh g f'))) := HK5.out.blk (HM2.out.of_block (HB4.out.block _ HM2.out.lt)) (by have := HDB.out; have := HMB.out; omega)
 have HD5 : Hid (BBlk w5 D 49 (stF false (orB f f') g')) := by rw [HW5.out]; exact st_putFirst (HD2.out.of (HB4.out.block _ HD2.out.lt)) _
 have HKW5 : Hid (KeptP (fun c => c = M) w w5) := kp_trans (HKW2.out.trans (KeptP.of_below HB4.out (fun _ h _ => h))) HK5.out (fun b hb e => by have := HB.out; have := HDB.out; omega)
 first | rw [← HW5.out] | (rw [show _ = w5 from HW5.out.symm])
 clear HW5 HX2 HY2 HZ2 HM2 HD2 HKW2 HB4 HK5
 have n2 : w5.cell? ⟨B + 1, 0, none⟩ = some (.bool false) := st_null HY5.out
 go_upto_region 7 with fail
 clear n2
 obtain ⟨w8, HW8⟩ : ∃ x, Hid (x = w5) := ⟨_, rfl⟩
 rw [← HW8.out] at HX5 HY5 HZ5 HM5 HD5 HKW5
 rw [← HW8.out]
 clear HW8
 have HX8 := HX5
 have HY8 := HY5
 have HZ8 := HZ5
 have HM8 := HM5
 have HD8 := HD5
 have HKW8 := HKW5
 clear HX5 HY5 HZ5 HM5 HD5 HKW5
 go_wp2_with (first | (with_reducible refine wpList_here' ?_; first | (refine wpList_load_mid rfl 121 _ rfl D 0 rfl (bcells 49 (stF false (orB f f') g')) _ HD8.out.all Tryz.underlying121 rfl (by rw [bcells_len]; exact info_st) ?_) | (refine wpList_store_mid rfl 121 _ _ rfl (B + 1 + 1) 0 (bcells 49 (stF false (orB f f') g')).toArray rfl rfl (by rw [bcells_size]; exact HZ8.out.there 0 49 (by omega)) (by rw [bcells_size]; exact info_st) (bcells_one _ _) ?_; dsimp only [Act.put])))
 obtain rfl : FF = Tryz.f80 := HFF.out
 have HR := Hid_mk (HZ8.out.put (stF false (orB f f') g'))
 refine bodyPost_ret (results_row (k := 6) (t := 121) (b := B + 1 + 1) Tryz.results80 rfl (load_st HR.out)) rfl ?_
 have hks : KeptP (fun c => c = B + 1 + 1) w8 (w8.setCells (B + 1 + 1) 0 (bcells 49 (stF false (orB f f') g'))) := KeptP.setCells (p := fun c => c = B + 1 + 1) (g := B + 1 + 1) rfl _ _ (kp_refl _ _)
 exact ⟨rfl, hks.blk HM8.out (by have := HMB.out; omega), kp_trans HKW8.out hks (fun b hb e => by have := HB.out; omega)⟩
set_option maxHeartbeats 1000000 in
set_option maxRecDepth 100000 in
theorem sthen_ny (M : Nat) (sh lv : Value) (bh : Nat → Nat → Bool) (f g f' g' : Nat → Bool) (w : World) (hm : Blk w M 578 (sgF sh lv bh)) :
  Calls Tryz.prog 80 #[.pointer (some ⟨M, 0, none⟩), stv false f g, stv true f' g'] w fun e w' => e = .returned (stv false f (orB g' g)) ∧ Hid (Blk w' M 578 (sgF sh lv (followB bh g f'))) ∧ Hid (KeptP (fun c => c = M) w w') := by
 obtain ⟨c1, HC1⟩ : ∃ c, Hid (c = (bcells 49 (stF false f g)).toArray) := ⟨_, rfl⟩
 obtain ⟨c2, HC2⟩ : ∃ c, Hid (c = (bcells 49 (stF true f' g')).toArray) := ⟨_, rfl⟩
 have h1 : c1.size = 49 := by rw [HC1.out]; exact bcells_size _ _
 have h2 : c2.size = 49 := by rw [HC2.out]; exact bcells_size _ _
 have hbd : ∀ w, (Instr.build 121 #[(0, .bool false), (1, sv f), (2, sv g')]).run Tryz.prog w = .ok (stv false f g') w := build_st _ _ _
 unfold stv
 rw [← HC1.out, ← HC2.out]
 obtain ⟨B, HB⟩ : ∃ B, Hid (B = w.heap.size) := ⟨_, rfl⟩
 obtain ⟨W, HW⟩ : ∃ W, Hid (W = ((w.alloc (.cells c1 121)).alloc (.cells c2 121)).alloc (.cells #[.bool false, .bool false, .bool false, .bool false, .bool false, .bool false, .bool false, .bool false, .bool false, .bool false, .bool false, .bool false, .bool false, .bool false, .bool false, .bool false, .bool false, .bool false, .bool false, .bool false, .bool false, .bool false, .bool false, .bool false, .bool false, .bool false, .bool false, .bool false, .bool false, .bool false, .bool false, .bool false, .bool false, .bool false, .bool false, .bool false, .bool false, .bool false, .bool false, .bool false, .bool false, .bool false, .bool false, .bool false, .bool false, .bool false, .bool false, .bool false, .bool false] 121)) := ⟨_, rfl⟩
 have HBW : Hid (Below w.heap.size w W) := by rw [HW.out]; exact below3 w _ _ _
 have HSW : Hid (W.heap.size = B + 3) := by rw [HW.out, HB.out]; show _ = _; simp
 have HX : Hid (BBlk W B 49 (stF false f g)) := by rw [HW.out, HC1.out]; exact Blk.alloc (Blk.alloc (BBlk.new w B HB.out 49 _ _) _) _
 have HY : Hid (BBlk W (B + 1) 49 (stF true f' g')) := by rw [HW.out, HC2.out]; exact Blk.alloc (BBlk.new _ (B + 1) (by rw [HB.out]; simp) 49 _ _) _
 have HZ : Hid (BBlk W (B + 1 + 1) 49 noB) := by rw [HW.out]; exact BBlk.zero49 _ (B + 1 + 1) (by rw [HB.out]; simp) _
 have HMB : Hid (M < B) := by rw [HB.out]; exact hm.lt
 have HMW : Hid (Blk W M 578 (sgF sh lv bh)) := hm.of_block (HBW.out.block _ hm.lt)
 clear hm
 go_enter Tryz.func80, Tryz.ntmps80
 obtain ⟨FF, HFF⟩ : ∃ F : Func, Hid (F = Tryz.f80) := ⟨_, rfl⟩
 rw [← HFF.out]
 go_upto_region 1 with fail
 rw [← HB.out]
 first | rw [← HW.out] | (rw [show _ = W from HW.out.symm])
 clear HW
 go_upto_region 2 with (first | (go_at_call 90; refine (follow_any M sh lv bh g f' _ HMW.out).mono ?_; rintro e w1 ⟨rfl, HM1, HK1⟩) | (with_reducible refine wpList_here' ?_; first | (refine wpList_load_mid rfl 116 _ rfl B 25 rfl (bcells 24 g) _ (st_last HX.out) Tryz.underlying116 rfl (by rw [bcells_len]; exact info_set) ?_) | (refine wpList_load_mid rfl 116 _ rfl (B + 1) 1 rfl (bcells 24 f') _ (st_first HY.out) Tryz.underlying116 rfl (by rw [bcells_len]; exact info_set) ?_)))
 have HX1 : Hid (BBlk w1 B 49 (stF false f g)) := HK1.out.blk HX.out (by have := HMB.out; omega)
 have HY1 : Hid (BBlk w1 (B + 1) 49 (stF true f' g')) := HK1.out.blk HY.out (by have := HMB.out; omega)
 have HZ1 : Hid (BBlk w1 (B + 1 + 1) 49 noB) := HK1.out.blk HZ.out (by have := HMB.out; omega)
 obtain ⟨D, HD⟩ : ∃ D, Hid (D = w1.heap.size) := ⟨_, rfl⟩
 have HDB : Hid (B + 3 ≤ D) := by have := HK1.out.size; have := HSW.out; have := HD.out; show _ ≤ _; omega
 obtain ⟨w2, HW2⟩ : ∃ x, Hid (x = (w1.alloc (.cells #[.bool false, .bool false, .bool false, .bool false, .bool false, .bool false, .bool false, .bool false, .bool false, .bool false, .bool false, .bool false, .bool false, .bool false, .bool false, .bool false, .bool false, .bool false, .bool false, .bool false, .bool false, .bool false, .bool false, .bool false, .bool false, .bool false, .bool false, .bool false, .bool false, .bool false, .bool false, .bool false, .bool false, .bool false, .bool false, .bool false, .bool false, .bool false, .bool false, .bool false, .bool false, .bool false, .bool false, .bool false, .bool false, .bool false, .bool false, .bool false, .bool false] 121)).setCells D 0 (bcells 49 (stF false f g'))) := ⟨_, rfl⟩
 have HDT : Hid ((w1.alloc (.cells #[.bool false, .bool false, .bool false, .bool false, .bool false, .bool false, .bool false, .bool false, .bool false, .bool false, .bool false, .bool false, .bool false, .bool false, .bool false, .bool false, .bool false, .bool false, .bool false, .bool false, .bool false, .bool false, .bool false, .bool false, .bool false, .bool false, .bool false, .bool false, .bool false, .bool false, .bool false, .bool false, .bool false, .bool false, .bool false, .bool false, .bool false, .bool false, .bool false, .bool false, .bool false, .bool false, .bool false, .bool false, .bool false, .bool false, .bool false, .bool false, .bool false] 121)).there w1.heap.size 0 49) := (BBlk.zero49 w1 _ rfl _).there 0 49 (by omega)
 have HD2 : Hid (BBlk w2 D 49 (stF false f g')) := by rw [HW2.out]; exact (BBlk.zero49 w1 D HD.out _).put _
 have HB2 : Hid (Below w1.heap.size w1 w2) := by rw [HW2.out]; exact Below.setCells (by have := HD.out; omega) _ _ (below1 w1 _)
 have n1 : w1.cell? ⟨B, 0, none⟩ = some (.bool false) := st_null HX1.out
 have n2 : w1.cell? ⟨B + 1, 0, none⟩ = some (.bool true) := st_null HY1.out
 go_upto_region 3 with (first | (with_reducible refine wpList_here' ?_; first | (refine wpList_load_mid rfl 116 _ rfl B 1 rfl (bcells 24 f) _ (st_first HX1.out) Tryz.underlying116 rfl (by rw [bcells_len]; exact info_set) ?_) | (refine wpList_load_mid rfl 116 _ rfl (B + 1) 25 rfl (bcells 24 g') _ (st_last HY1.out) Tryz.underlying116 rfl (by rw [bcells_len]; exact info_set) ?_) | (refine wpList_build rfl 121 _ rfl #[(0, .bool false), (1, sv f), (2, sv g')] (by kernel_rfl) (bcells 49 (stF false f g')).toArray hbd ?_) | (refine wpList_store_mid rfl 121 _ _ rfl w1.heap.size 0 (bcells 49 (stF false f g')).toArray rfl rfl (by rw [bcells_size]; exact HDT.out) (by rw [bcells_size]; exact info_st) (bcells_one _ _) ?_; dsimp only [Act.put])))
 rw [← HD.out]
 first | rw [← HW2.out] | (rw [show _ = w2 from HW2.out.symm])
 clear HW2 n1 n2 hbd HDT
 have HX2 : Hid (BBlk w2 B 49 (stF false f g)) := HX1.out.of (HB2.out.block _ HX1.out.lt)
 have HY2 : Hid (BBlk w2 (B + 1) 49 (stF true f' g')) := HY1.out.of (HB2.out.block _ HY1.out.lt)
 have HZ2 : Hid (BBlk w2 (B + 1 + 1) 49 noB) := HZ1.out.of (HB2.out.block _ HZ1.out.lt)
 have HM2 : Hid (Blk w2 M 578 (sgF sh lv (followB bh g f'))) := HM1.out.of_block (HB2.out.block _ HM1.out.lt)
 have HKW2 : Hid (KeptP (fun c => c = M) w w2) := kp_trans ((KeptP.of_below HBW.out (fun _ h _ => h)).trans HK1.out) (kp_below HB2.out) (fun b hb e => by have := HB.out; have := HDB.out; have := HD.out; omega)
 clear HX HY HZ HMW HX1 HY1 HZ1 HM1 HK1 HB2 HD
 have n1 : w2.cell? ⟨B, 0, none⟩ = some (.bool false) := st_null HX2.out
 go_upto_region 5 with fail
 clear n1
 obtain ⟨w5, HW5⟩ : ∃ x, Hid (x = w2) := ⟨_, rfl⟩
 rw [← HW5.out] at HX2 HY2 HZ2 HM2 HD2 HKW2
 rw [← HW5.out]
 clear HW5
 have HX5 := HX2
 have HY5 := HY2
 have HZ5 := HZ2
 have HM5 := HM2
 have HD5 := HD2
 have HKW5 := HKW2
 clear HX2 HY2 HZ2 HM2 HD2 HKW2
 have n2 : w5.cell? ⟨B + 1, 0, none⟩ = some (.bool true) := st_null HY5.out
 go_upto_region 7 with (first | (go_at_call 91; refine (orS_any g' g _).mono ?_; rintro e w7 ⟨rfl, HB7⟩; have HD6 := Hid_mk (HD5.out.of (HB7.out.block _ HD5.out.lt))) | (with_reducible refine wpList_here' ?_; first | (refine wpList_load_mid rfl 116 _ rfl D 25 rfl (bcells 24 g') _ (st_last HD5.out) Tryz.underlying116 rfl (by rw [bcells_len]; exact info_set) ?_) | (refine wpList_load_mid rfl 116 _ rfl B 25 rfl (bcells 24 g) _ (st_last HX5.out) Tryz.underlying116 rfl (by rw [bcells_len]; exact info_set) ?_) | (refine wpList_store_mid rfl 116 _ _ rfl D 25 (bcells 24 (orB g' g)).toArray rfl rfl (by rw [bcells_size]; exact HD6.out.there 25 24 (by omega)) (by rw [bcells_size]; exact info_set) (bcells_one _ _) ?_; dsimp only [Act.put])))
 clear n2
 obtain ⟨w8, HW8⟩ : ∃ x, Hid (x = w7.setCells D 25 (bcells 24 (orB g' g))) := ⟨_, rfl⟩
 have HK8 : Hid (KeptP (fun c => c = D) w7 w8) := by rw [HW8.out]; exact KeptP.setCells (p := fun c => c = D) (g := D) rfl _ _ (kp_refl _ _)
 have HX8 : Hid (BBlk w8 B 49 (stF false f g)) := HK8.out.blk (HX5.out.of (HB7.out.block _ HX5.out.lt)) (by have := HDB.out; omega)
 have HY8 : Hid (BBlk w8 (B + 1) 49 (stF true f' g')) := HK8.out.blk (HY5.out.of (HB7.out.block _ HY5.out.lt)) (by have := HDB.out; omega)
 have HZ8 : Hid (BBlk w8 (B + 1 + 1) 49 noB) := HK8.out.blk (HZ5.out.of (HB7.out.block _ HZ5.out.lt)) (by have := HDB.out; omega)
 have HM8 : Hid (Blk w8 M 578 (sgF sh lv (followB bh g f'))) := HK8.out.blk (HM5.out.of_block (HB7.out.block _ HM5.out.lt)) (by have := HDB.out; have := HMB.out; omega)
 have HD8 : Hid (BBlk w8 D 49 (stF false f (orB g' g))) := by rw [HW8.out]; exact st_putLast (HD5.out.of (HB7.out.block _ HD5.out.lt)) _
 have HKW8 : Hid (KeptP (fun c => c = M) w w8) := kp_trans (HKW5.out.trans (KeptP.of_below HB7.out (fun _ h _ => h))) HK8.out (fun b hb e => by have := HB.out; have := HDB.out; omega)
 first | rw [← HW8.out] | (rw [show _ = w8 from HW8.out.symm])
 clear HW8 HX5 HY5 HZ5 HM5 HD5 HKW5 HB7 HK8
 go_wp2_with (first | (with_reducible refine wpList_here' ?_; first | (refine wpList_load_mid rfl 121 _ rfl D 0 rfl (bcells 49 (stF false f (orB g' g))) _ HD8.out.all Tryz.underlying121 rfl (by rw [bcells_len]; exact info_st) ?_) | (refine wpList_store_mid rfl 121 _ _ rfl (B + 1 + 1) 0 (bcells 49 (stF false f (orB g' g))).toArray rfl rfl (by rw [bcells_size]; exact HZ8.out.there 0 49 (by omega)) (by rw [bcells_size]; exact info_st) (bcells_one _ _) ?_; dsimp only [Act.put])))
 obtain rfl : FF = Tryz.f80 := HFF.out
 have HR := Hid_mk (HZ8.out.put (stF false f (orB g' g)))
 refine bodyPost_ret (results_row (k := 6) (t := 121) (b := B + 1 + 1) Tryz.results80 rfl (load_st HR.out)) rfl ?_
 have hks : KeptP (fun c => c = B + 1 + 1) w8 (w8.setCells (B + 1 + 1) 0 (bcells 49 (stF false f (orB g' g)))) := KeptP.setCells (p := fun c => c = B + 1 + 1) (g := B + 1 + 1) rfl _ _ (kp_refl _ _)
 exact ⟨rfl, hks.blk HM8.out (by have := HMB.out; omega), kp_trans HKW8.out hks (fun b hb e => by have := HB.out; omega)⟩
set_option maxHeartbeats 1000000 in
set_option maxRecDepth 100000 in
theorem sthen_nn (M : Nat) (sh lv : Value) (bh : Nat → Nat → Bool) (f g f' g' : Nat → Bool) (w : World) (hm : Blk w M 578 (sgF sh lv bh)) :
  Calls Tryz.prog 80 #[.pointer (some ⟨M, 0, none⟩), stv false f g, stv false f' g'] w fun e w' => e = .returned (stv false f g') ∧ Hid (Blk w' M 578 (sgF sh lv (followB bh g f'))) ∧ Hid (KeptP (fun c => c = M) w w') := by
 obtain ⟨c1, HC1⟩ : ∃ c, Hid (c = (bcells 49 (stF false f g)).toArray) := ⟨_, rfl⟩
 obtain ⟨c2, HC2⟩ : ∃ c, Hid (c = (bcells 49 (stF false f' g')).toArray) := ⟨_, rfl⟩
 have h1 : c1.size = 49 := by rw [HC1.out]; exact bcells_size _ _
 have h2 : c2.size = 49 := by rw [HC2.out]; exact bcells_size _ _
 have hbd : ∀ w, (Instr.build 121 #[(0, .bool false), (1, sv f), (2, sv g')]).run Tryz.prog w = .ok (stv false f g') w := build_st _ _ _
 unfold stv
 rw [← HC1.out, ← HC2.out]
 obtain ⟨B, HB⟩ : ∃ B, Hid (B = w.heap.size) := ⟨_, rfl⟩
 obtain ⟨W, HW⟩ : ∃ W, Hid (W = ((w.alloc (.cells c1 121)).alloc (.cells c2 121)).alloc (.cells #[.bool false, .bool false, .bool false, .bool false, .bool false, .bool false, .bool false, .bool false, .bool false, .bool false, .bool false, .bool false, .bool false, .bool false, .bool false, .bool false, .bool false, .bool false, .bool false, .bool false, .bool false, .bool false, .bool false, .bool false, .bool false, .bool false, .bool false, .bool false, .bool false, .bool false, .bool false, .bool false, .bool false, .bool false, .bool false, .bool false, .bool false, .bool false, .bool false, .bool false, .bool false, .bool false, .bool false, .bool false, .bool false, .bool false, .bool false, .bool false, .bool false] 121)) := ⟨_, rfl⟩
 have HBW : Hid (Below w.heap.size w W) := by rw [HW.out]; exact below3 w _ _ _
 have HSW : Hid (W.heap.size = B + 3) := by rw [HW.out, HB.out]; show _ = _; simp
 have HX : Hid (BBlk W B 49 (stF false f g)) := by rw [HW.out, HC1.out]; exact Blk.alloc (Blk.alloc (BBlk.new w B HB.out 49 _ _) _) _
 have HY : Hid (BBlk W (B + 1) 49 (stF false f' g')) := by rw [HW.out, HC2.out]; exact Blk.alloc (BBlk.new _ (B + 1) (by rw [HB.out]; simp) 49 _ _) _
 have HZ : Hid (BBlk W (B + 1 + 1) 49 noB) := by rw [HW.out]; exact BBlk.zero49 _ (B + 1 + 1) (by rw [HB.out]; simp) _
 have HMB : Hid (M < B) := by rw [HB.out]; exact hm.lt
 have HMW : Hid (Blk W M 578 (sgF sh lv bh)) := hm.of_block (HBW.out.block _ hm.lt)
 clear hm
 go_enter Tryz.func80, Tryz.ntmps80
 obtain ⟨FF, HFF⟩ : ∃ F : Func, Hid (F = Tryz.f80) := ⟨_, rfl⟩
 rw [← HFF.out]
 go_upto_region 1 with fail
 rw [← HB.out]
 first | rw [← HW.out] | (rw [show _ = W from HW.out.symm])
 clear HW
 go_upto_region 2 with (first | (go_at_call 90; refine (follow_any M sh lv bh g f' _ HMW.out).mono ?_; rintro e w1 ⟨rfl, HM1, HK1⟩) | (with_reducible refine wpList_here' ?_; first | (refine wpList_load_mid rfl 116 _ rfl B 25 rfl (bcells 24 g) _ (st_last HX.out) Tryz.underlying116 rfl (by rw [bcells_len]; exact info_set) ?_) | (refine wpList_load_mid rfl 116 _ rfl (B + 1) 1 rfl (bcells 24 f') _ (st_first HY.out) Tryz.underlying116 rfl (by rw [bcells_len]; exact info_set) ?_)))
 have HX1 : Hid (BBlk w1 B 49 (stF false f g)) := HK1.out.blk HX.out (by have := HMB.out; omega)
 have HY1 : Hid (BBlk w1 (B + 1) 49 (stF false f' g')) := HK1.out.blk HY.out (by have := HMB.out; omega)
 have HZ1 : Hid (BBlk w1 (B + 1 + 1) 49 noB) := HK1.out.blk HZ.out (by have := HMB.out; omega)
 obtain ⟨D, HD⟩ : ∃ D, Hid (D = w1.heap.size) := ⟨_, rfl⟩
 have HDB : Hid (B + 3 ≤ D) := by have := HK1.out.size; have := HSW.out; have := HD.out; show _ ≤ _; omega
 obtain ⟨w2, HW2⟩ : ∃ x, Hid (x = (w1.alloc (.cells #[.bool false, .bool false, .bool false, .bool false, .bool false, .bool false, .bool false, .bool false, .bool false, .bool false, .bool false, .bool false, .bool false, .bool false, .bool false, .bool false, .bool false, .bool false, .bool false, .bool false, .bool false, .bool false, .bool false, .bool false, .bool false, .bool false, .bool false, .bool false, .bool false, .bool false, .bool false, .bool false, .bool false, .bool false, .bool false, .bool false, .bool false, .bool false, .bool false, .bool false, .bool false, .bool false, .bool false, .bool false, .bool false, .bool false, .bool false, .bool false, .bool false] 121)).setCells D 0 (bcells 49 (stF false f g'))) := ⟨_, rfl⟩
 have HDT : Hid ((w1.alloc (.cells #[.bool false, .bool false, .bool false, .bool false, .bool false, .bool false, .bool false, .bool false, .bool false, .bool false, .bool false, .bool false, .bool false, .bool false, .bool false, .bool false, .bool false, .bool false, .bool false, .bool false, .bool false, .bool false, .bool false, .bool false, .bool false, .bool false, .bool false, .bool false, .bool false, .bool false, .bool false, .bool false, .bool false, .bool false, .bool false, .bool false, .bool false, .bool false, .bool false, .bool false, .bool false, .bool false, .bool false, .bool false, .bool false, .bool false, .bool false, .bool false, .bool false] 121)).there w1.heap.size 0 49) := (BBlk.zero49 w1 _ rfl _).there 0 49 (by omega)
 have HD2 : Hid (BBlk w2 D 49 (stF false f g')) := by rw [HW2.out]; exact (BBlk.zero49 w1 D HD.out _).put _
 have HB2 : Hid (Below w1.heap.size w1 w2) := by rw [HW2.out]; exact Below.setCells (by have := HD.out; omega) _ _ (below1 w1 _)
 have n1 : w1.cell? ⟨B, 0, none⟩ = some (.bool false) := st_null HX1.out
 have n2 : w1.cell? ⟨B + 1, 0, none⟩ = some (.bool false) := st_null HY1.out
 go_upto_region 3 with (first | (with_reducible refine wpList_here' ?_; first | (refine wpList_load_mid rfl 116 _ rfl B 1 rfl (bcells 24 f) _ (st_first HX1.out) Tryz.underlying116 rfl (by rw [bcells_len]; exact info_set) ?_) | (refine wpList_load_mid rfl 116 _ rfl (B + 1) 25 rfl (bcells 24 g') _ (st_last HY1.out) Tryz.underlying116 rfl (by rw [bcells_len]; exact info_set) ?_) | (refine wpList_build rfl 121 _ rfl #[(0, .bool false), (1, sv f), (2, sv g')] (by kernel_rfl) (bcells 49 (stF false f g')).toArray hbd ?_) | (refine wpList_store_mid rfl 121 _ _ rfl w1.heap.size 0 (bcells 49 (stF false f g')).toArray rfl rfl (by rw [bcells_size]; exact HDT.out) (by rw [bcells_size]; exact info_st) (bcells_one _ _) ?_; dsimp only [Act.put])))
 rw [← HD.out]
 first | rw [← HW2.out] | (rw [show _ = w2 from HW2.out.symm])
 clear HW2 n1 n2 hbd HDT
 have HX2 : Hid (BBlk w2 B 49 (stF false f g)) := HX1.out.of (HB2.out.block _ HX1.out.lt)
 have HY2 : Hid (BBlk w2 (B + 1) 49 (stF false f' g')) := HY1.out.of (HB2.out.block _ HY1.out.lt)
 have HZ2 : Hid (BBlk w2 (B + 1 + 1) 49 noB) := HZ1.out.of (HB2.out.block _ HZ1.out.lt)
 have HM2 : Hid (Blk w2 M 578 (sgF sh lv (followB bh g f'))) := HM1.out.of_block (HB2.out.block _ HM1.out.lt)
 have HKW2 : Hid (KeptP (fun c => c = M) w w2) := kp_trans ((KeptP.of_below HBW.out (fun _ h _ => h)).trans HK1.out) (kp_below HB2.out) (fun b hb e => by have := HB.out; have := HDB.out; have := HD.out; omega)
 clear HX HY HZ HMW HX1 HY1 HZ1 HM1 HK1 HB2 HD
 have n1 : w2.cell? ⟨B, 0, none⟩ = some (.bool false) := st_null HX2.out
 go_upto_region 5 with fail
 clear n1
 obtain ⟨w5, HW5⟩ : ∃ x, Hid (x = w2) := ⟨_, rfl⟩
 rw [← HW5.out] at HX2 HY2 HZ2 HM2 HD2 HKW2
 rw [← HW5.out]
 clear HW5
 have HX5 := HX2
 have HY5 := HY2
 have HZ5 := HZ2
 have HM5 := HM2
 have HD5 := HD2
 have HKW5 := HKW2
 clear HX2 HY2 HZ2 HM2 HD2 HKW2
 have n2 : w5.cell? ⟨B + 1, 0, none⟩ = some (.bool false) := st_null HY5.out
 go_upto_region 7 with fail
 clear n2
 obtain ⟨w8, HW8⟩ : ∃ x, Hid (x = w5) := ⟨_, rfl⟩
 rw [← HW8.out] at HX5 HY5 HZ5 HM5 HD5 HKW5
 rw [← HW8.out]
 clear HW8
 have HX8 := HX5
 have HY8 := HY5
 have HZ8 := HZ5
 have HM8 := HM5
 have HD8 := HD5
 have HKW8 := HKW5
 clear HX5 HY5 HZ5 HM5 HD5 HKW5
 go_wp2_with (first | (with_reducible refine wpList_here' ?_; first | (refine wpList_load_mid rfl 121 _ rfl D 0 rfl (bcells 49 (stF false f g')) _ HD8.out.all Tryz.underlying121 rfl (by rw [bcells_len]; exact info_st) ?_) | (refine wpList_store_mid rfl 121 _ _ rfl (B + 1 + 1) 0 (bcells 49 (stF false f g')).toArray rfl rfl (by rw [bcells_size]; exact HZ8.out.there 0 49 (by omega)) (by rw [bcells_size]; exact info_st) (bcells_one _ _) ?_; dsimp only [Act.put])))
 obtain rfl : FF = Tryz.f80 := HFF.out
 have HR := Hid_mk (HZ8.out.put (stF false f g'))
 refine bodyPost_ret (results_row (k := 6) (t := 121) (b := B + 1 + 1) Tryz.results80 rfl (load_st HR.out)) rfl ?_
 have hks : KeptP (fun c => c = B + 1 + 1) w8 (w8.setCells (B + 1 + 1) 0 (bcells 49 (stF false f g'))) := KeptP.setCells (p := fun c => c = B + 1 + 1) (g := B + 1 + 1) rfl _ _ (kp_refl _ _)
 exact ⟨rfl, hks.blk HM8.out (by have := HMB.out; omega), kp_trans HKW8.out hks (fun b hb e => by have := HB.out; omega)⟩
theorem sthen_any (M : Nat) (sh lv : Value) (bh : Nat → Nat → Bool) (nl nl' : Bool) (f g f' g' : Nat → Bool) (w : World) (hm : Blk w M 578 (sgF sh lv bh)) :
  Calls Tryz.prog 80 #[.pointer (some ⟨M, 0, none⟩), stv nl f g, stv nl' f' g'] w fun e w' => e = .returned (stv (nl && nl') (if nl = true then orB f f' else f) (if nl' = true then orB g' g else g')) ∧ Hid (Blk w' M 578 (sgF sh lv (followB bh g f'))) ∧ Hid (KeptP (fun c => c = M) w w') := by
 cases nl <;> cases nl'
 ·exact sthen_nn M sh lv bh f g f' g' w hm
 ·exact sthen_ny M sh lv bh f g f' g' w hm
 ·exact sthen_yn M sh lv bh f g f' g' w hm
 ·exact sthen_yy M sh lv bh f g f' g' w hm
structure Sg (M H : Nat) (w : World) (sh lv : Value) (t : SeS) : Prop where
 blk : Blk w M 578 (sgF sh lv t.bh)
 lab : w.ownsRow H 5 1 lv (t.lb.length + 1) (lbV (0 :: t.lb))
 off : ¬ lv.ownBlock = some M
def SeatPost (M H : Nat) (w : World) (sh lv : Value) (r : SeS × SeK) (e : Ending) (w' : World) : Prop :=
 ∃ lv' : Value, e = .returned (stv r.2.nl r.2.fi r.2.la) ∧ Hid (Sg M H w' sh lv' r.1) ∧ Hid (KeptP (fun c => c = M ∨ lv.ownBlock = some c) w w') ∧ Hid (NewB w.heap.size lv lv')
set_option maxHeartbeats 1000000 in
set_option maxRecDepth 100000 in
theorem seatStep_any (M H : Nat) (sh lv : Value) (t : SeS) (x : Int) (w : World) (hm : Sg M H w sh lv t) (hn : t.lb.length < 23) :
  Calls Tryz.prog 79 #[.pointer (some ⟨M, 0, none⟩), .int .u8 x] w (SeatPost M H w sh lv ({ t with lb := t.lb ++ [x] }, ⟨oneB (t.lb.length + 1), oneB (t.lb.length + 1), false⟩)) := by
 obtain ⟨i5, hi5, hz50, hz51, hz52⟩ := info_parts info5s
 obtain ⟨lb, bh⟩ := t
 dsimp only at hn
 have HMK : Hid (Sg M H w sh lv ⟨lb, bh⟩) := hm
 obtain ⟨la, lc, rfl, _⟩ := own_shape hm.lab
 obtain ⟨n, HN⟩ : ∃ n, Hid (n = lb.length + 1) := ⟨_, rfl⟩
 dsimp only at HMK
 rw [← HN.out] at HMK
 dsimp only
 rw [← HN.out]
 have hn24 : n < 24 := by have := HN.out; omega
 have hn24i : (n : Int) < 24 := by omega
 have hn0 : (0 : Int) ≤ (n : Int) := by omega
 obtain ⟨B, HB⟩ : ∃ B, Hid (B = w.heap.size) := ⟨_, rfl⟩
 obtain ⟨V, HV⟩ : ∃ W, Hid (W = (w.alloc (.cells #[.bool false, .bool false, .bool false, .bool false, .bool false, .bool false, .bool false, .bool false, .bool false, .bool false, .bool false, .bool false, .bool false, .bool false, .bool false, .bool false, .bool false, .bool false, .bool false, .bool false, .bool false, .bool false, .bool false, .bool false, .bool false, .bool false, .bool false, .bool false, .bool false, .bool false, .bool false, .bool false, .bool false, .bool false, .bool false, .bool false, .bool false, .bool false, .bool false, .bool false, .bool false, .bool false, .bool false, .bool false, .bool false, .bool false, .bool false, .bool false, .bool false] 121)).alloc (.cells #[.bool false, .bool false, .bool false, .bool false, .bool false, .bool false, .bool false, .bool false, .bool false, .bool false, .bool false, .bool false, .bool false, .bool false, .bool false, .bool false, .bool false, .bool false, .bool false, .bool false, .bool false, .bool false, .bool false, .bool false] 116)) := ⟨_, rfl⟩
 have HBV : Hid (Below w.heap.size w V) := by rw [HV.out]; exact below2 w _ _
 have HRV : Hid (BBlk V B 49 noB) := by rw [HV.out]; exact Blk.alloc (BBlk.zero49 w B HB.out _) _
 have HHV : Hid (BBlk V (B + 1) 24 noB) := by rw [HV.out]; exact BBlk.zero _ (B + 1) (by rw [HB.out]; simp) _
 have HT : Hid (((w.alloc (.cells #[.bool false, .bool false, .bool false, .bool false, .bool false, .bool false, .bool false, .bool false, .bool false, .bool false, .bool false, .bool false, .bool false, .bool false, .bool false, .bool false, .bool false, .bool false, .bool false, .bool false, .bool false, .bool false, .bool false, .bool false, .bool false, .bool false, .bool false, .bool false, .bool false, .bool false, .bool false, .bool false, .bool false, .bool false, .bool false, .bool false, .bool false, .bool false, .bool false, .bool false, .bool false, .bool false, .bool false, .bool false, .bool false, .bool false, .bool false, .bool false, .bool false] 121)).alloc (.cells #[.bool false, .bool false, .bool false, .bool false, .bool false, .bool false, .bool false, .bool false, .bool false, .bool false, .bool false, .bool false, .bool false, .bool false, .bool false, .bool false, .bool false, .bool false, .bool false, .bool false, .bool false, .bool false, .bool false, .bool false] 116)).there (w.heap.size + 1) 0 24) := by
  have h := HHV.out.there 0 24 (by omega)
  rw [HV.out, HB.out] at h; exact h
 obtain ⟨W, HW⟩ : ∃ W, Hid (W = V.setCells (B + 1) 0 (bcells 24 noB)) := ⟨_, rfl⟩
 have HBW : Hid (Below w.heap.size w W) := by rw [HW.out]; exact Below.setCells (by have := HB.out; omega) _ _ HBV.out
 have HR : Hid (BBlk W B 49 noB) := by rw [HW.out]; exact HRV.out.of (block_setCells (by omega) _ _ _)
 have HH : Hid (BBlk W (B + 1) 24 noB) := by rw [HW.out]; exact HHV.out.put noB
 have HSW : Hid (W.heap.size = B + 2) := by rw [HW.out]; show _ = _; rw [size_setCells, HV.out, HB.out]; simp
 have HMB : Hid (M < B) := by rw [HB.out]; exact hm.blk.lt
 have hz24 : ∀ w, (Instr.build 116 #[]).run Tryz.prog w = .ok (sv noB) w := fun w => run_build w 116 _ _ (by kernel_rfl)
 have HMW : Hid (Blk W M 578 (sgF sh (.slice la n lc) bh)) := HMK.out.blk.of_block (HBW.out.block _ HMK.out.blk.lt)
 have HLW : Hid (W.ownsRow H 5 1 (.slice la n lc) n (lbV (0 :: lb))) := by
  have h := HMK.out.lab
  dsimp only at h
  rw [← HN.out] at h
  exact own_below h HBW.out
 have HHL : Hid (H ≤ w.heap.size) := by
  rcases HMK.out.lab.2 with ⟨_, h0⟩ | ⟨g, cap, cur, _, h1, h2, _⟩
  ·have := HN.out; omega
  ·exact Nat.le_trans h1 (Nat.le_of_lt (Array.getElem?_eq_some_iff.1 h2).1)
 have HLT : Hid (∀ c, (Value.slice la n lc).ownBlock = some c → H ≤ c ∧ c < B ∧ c ≠ M) := fun c h => by have h1 := HMK.out.lab.lt c h; have h2 := HMK.out.off; rw [HB.out]; exact ⟨h1.1, h1.2, fun e => h2 (e ▸ h)⟩
 clear hm
 go_enter Tryz.func79, Tryz.ntmps79
 obtain ⟨FF, HFF⟩ : ∃ F : Func, Hid (F = Tryz.f79) := ⟨_, rfl⟩
 rw [← HFF.out]
 go_upto_region 2 with (first | (with_reducible refine wpList_here' ?_; first | (refine wpList_build rfl 116 _ rfl #[] (by kernel_rfl) (bcells 24 noB).toArray hz24 ?_) | (refine wpList_store_mid rfl 116 _ _ rfl (w.heap.size + 1) 0 (bcells 24 noB).toArray rfl rfl (by rw [bcells_size]; exact HT.out) (by rw [bcells_size]; exact info_set) (bcells_one _ _) ?_; dsimp only [Act.put])))
 rw [← HV.out, ← HB.out]
 first | rw [← HW.out] | (rw [show _ = W from HW.out.symm])
 clear HW HV HT HRV HHV HBV hz24
 have m1 : W.cell? ⟨M, 1, none⟩ = some (.slice la n lc) := HMW.out.cell (i := 1) (by omega)
 have h0 := HH.out.get hn24
 have hf0 := Blk.frozen HH.out n
 go_upto_region 3 with fail
 clear m1 h0 hf0
 obtain ⟨w2, HW2⟩ : ∃ x, Hid (x = W.setCell ⟨B + 1, n, none⟩ (.bool true)) := ⟨_, rfl⟩
 have HK2 : Hid (KeptP (fun c => c = B + 1) W w2) := by rw [HW2.out]; exact kp_set _ _ _ _
 have HH2 : Hid (BBlk w2 (B + 1) 24 (oneB n)) := by rw [HW2.out]; exact (HH.out.set1 hn24 true).congr (fun i _ => by unfold oneB noB; by_cases e : i = n <;> simp [e])
 have HR2 : Hid (BBlk w2 B 49 noB) := HK2.out.blk HR.out (by omega)
 have HM2 : Hid (Blk w2 M 578 (sgF sh (.slice la n lc) bh)) := HK2.out.blk HMW.out (by have := HMB.out; omega)
 have HL2 : Hid (w2.ownsRow H 5 1 (.slice la n lc) n (lbV (0 :: lb))) := owns_keptP HLW.out HK2.out (fun c h e => by have := HLT.out c h; have e2 : c = B + 1 := e; omega)
 have HBW2 : Hid (Below w.heap.size w w2) := HBW.out.trans (HK2.out.to_below HBW.out.size (fun c e => by have e2 : c = B + 1 := e; have := HB.out; omega))
 have HS2 : Hid (w2.heap.size = B + 2) := by have h := HSW.out; rw [HW2.out]; show _ = _; rw [← h]; simp
 rw [← HW2.out]
 clear HW2 HK2 HH HR HMW HLW HBW HSW
 have m1 : w2.cell? ⟨M, 1, none⟩ = some (.slice la n lc) := HM2.out.cell (i := 1) (by omega)
 have hown := HL2.out.alloc (.cells #[.int .u8 x] 5)
 go_upto_region 4 with (at_builtin; refine wpList_append_lies _ rfl (.tmp 17) (.tmp 19) 100 rfl H 5 i5 (.int .u8 0) 1 1 Tryz.underlying100 hi5 hz50 hz51 hz52 rfl (by decide) (.slice la n lc) n (lbV (0 :: lb)) rfl hown ⟨w2.heap.size, 0, none⟩ 1 1 [.int .u8 x] rfl rfl (news_new1 w2 (.int .u8 x) 5) (by simp [Value.oneCell']) (by decide) (by unfold maxLen; omega) (by omega) (by have := HHL.out; have := HBW2.out.size; simp; omega) _ rfl ?_; intro g5 cap5 w3 hown5 hgrow5 hloc5 hg5; have HK3 := Hid_mk (kp_grown hgrow5); have HM3 := Hid_mk (HK3.out.blk (HM2.out.alloc _) (fun h => (HLT.out M h).2.2 rfl)); have m3 : w3.cell? ⟨M, 1, none⟩ = some (.slice la n lc) := HM3.out.cell (i := 1) (by omega); have mf := HM3.out.frozen 1)
 have HR3 : Hid (BBlk w3 B 49 noB) := HK3.out.blk (Blk.alloc HR2.out _) (fun h => by have := HLT.out B h; omega)
 have HH3 : Hid (BBlk w3 (B + 1) 24 (oneB n)) := HK3.out.blk (Blk.alloc HH2.out _) (fun h => by have := HLT.out (B + 1) h; omega)
 have HKW3 : Hid (KeptP (fun c => c = M ∨ (Value.slice la n lc).ownBlock = some c) w w3) := kp_trans (KeptP.of_below (HBW2.out.trans ((below1 w2 (.cells #[.int .u8 x] 5)).mono HBW2.out.size)) (fun _ h _ => h)) HK3.out (fun b _ e => .inr e)
 have HG5 : Hid ((Value.slice la n lc).ownBlock = some g5 ∨ B + 2 ≤ g5) := hloc5.imp id (fun h => by have := HS2.out; have e : (w2.alloc (.cells #[.int .u8 x] 5)).heap.size = w2.heap.size + 1 := (by simp); omega)
 have HL3 := Hid_mk hown5
 have HGS : Hid (g5 < w3.heap.size) := hg5
 have HMR : Hid (B + 2 ≤ w3.heap.size) := by have h := HK3.out.size; have := HS2.out; have e : (w2.alloc (.cells #[.int .u8 x] 5)).heap.size = w2.heap.size + 1 := (by simp); show _ ≤ _; omega
 clear m1 hown hown5 hgrow5 hloc5 hg5 m3 mf HK3
 obtain ⟨w4, HW4⟩ : ∃ y, Hid (y = w3.setCell ⟨M, 1, none⟩ (.slice (some ⟨g5, 0, none⟩) (n + 1) cap5)) := ⟨_, rfl⟩
 have HK4 : Hid (KeptP (fun c => c = M) w3 w4) := by rw [HW4.out]; exact kp_set _ _ _ _
 have HM4 : Hid (Blk w4 M 578 (sgF sh (.slice (some ⟨g5, 0, none⟩) (n + 1) cap5) bh)) := by rw [HW4.out]; exact sg_lab HM3.out _
 have HR4 : Hid (BBlk w4 B 49 noB) := HK4.out.blk HR3.out (by have := HMB.out; omega)
 have HH4 : Hid (BBlk w4 (B + 1) 24 (oneB n)) := HK4.out.blk HH3.out (by have := HMB.out; omega)
 have HGM : Hid (g5 ≠ M) := by
  rcases HG5.out with h | h
  ·exact (HLT.out g5 h).2.2
  ·have := HMB.out; show _ ≠ _; omega
 have HL4 : Hid (w4.ownsRow H 5 1 (.slice (some ⟨g5, 0, none⟩) (n + 1) cap5) (n + 1) (lbV (0 :: lb) ++ [.int .u8 x])) := owns_keptP HL3.out HK4.out (fun c h e => HGM.out ((show g5 = c by simpa [Value.ownBlock] using h).trans e))
 have HKW4 : Hid (KeptP (fun c => c = M ∨ (Value.slice la n lc).ownBlock = some c) w w4) := kp_trans HKW3.out HK4.out (fun b _ e => .inl e)
 first | rw [← HW4.out] | (rw [show _ = w4 from HW4.out.symm])
 clear HW4 HR3 HH3 HL3 HM3 HKW3
 have hbd : ∀ w, (Instr.build 121 #[(1, sv (oneB n)), (2, sv (oneB n))]).run Tryz.prog w = .ok (stv false (oneB n) (oneB n)) w := build_st2 _ _
 go_wp2_with (first | (with_reducible refine wpList_here' ?_; first | (refine wpList_load_mid rfl 116 _ rfl (B + 1) 0 rfl (bcells 24 (oneB n)) _ HH4.out.all Tryz.underlying116 rfl (by rw [bcells_len]; exact info_set) ?_) | (refine wpList_build rfl 121 _ rfl #[(1, sv (oneB n)), (2, sv (oneB n))] (by kernel_rfl) (bcells 49 (stF false (oneB n) (oneB n))).toArray hbd ?_) | (refine wpList_store_mid rfl 121 _ _ rfl B 0 (bcells 49 (stF false (oneB n) (oneB n))).toArray rfl rfl (by rw [bcells_size]; exact HR4.out.there 0 49 (by omega)) (by rw [bcells_size]; exact info_st) (bcells_one _ _) ?_; dsimp only [Act.put])))
 obtain rfl : FF = Tryz.f79 := HFF.out
 have HRR := Hid_mk (HR4.out.put (stF false (oneB n) (oneB n)))
 refine bodyPost_ret (results_row (k := 4) (t := 121) (b := B) Tryz.results79 rfl (load_st HRR.out)) rfl ?_
 have hks : KeptP (fun c => c = B) w4 (w4.setCells B 0 (bcells 49 (stF false (oneB n) (oneB n)))) := KeptP.setCells (p := fun c => c = B) (g := B) rfl _ _ (kp_refl _ _)
 refine ⟨.slice (some ⟨g5, 0, none⟩) (n + 1) cap5, rfl, ⟨hks.blk HM4.out (by have := HMB.out; omega), ?_, fun e => HGM.out (by simpa [Value.ownBlock] using e)⟩, kp_trans HKW4.out hks (fun b hb e => by have := HB.out; omega), ?_⟩
 ·show World.ownsRow _ _ _ _ _ ((lb ++ [x]).length + 1) (lbV (0 :: (lb ++ [x])))
  rw [show (lb ++ [x]).length + 1 = n + 1 by rw [List.length_append, HN.out]; rfl, show lbV (0 :: (lb ++ [x])) = lbV (0 :: lb) ++ [.int .u8 x] by simp [lbV]]
  exact owns_keptP HL4.out hks (fun c h e => by
   have h2 : g5 = c := by simpa [Value.ownBlock] using h
   have e2 : c = B := e
   rcases HG5.out with h3 | h3
   ·have := HLT.out g5 h3; omega
   ·omega)
 ·rcases HG5.out with h3 | h3
  ·exact .inl (by rw [h3]; rfl)
  ·exact .inr fun b e => by have h2 : g5 = b := (by simpa [Value.ownBlock] using e); have := HB.out; omega
end Go.Proofs.YtbepmeipjdpipaaGreat
