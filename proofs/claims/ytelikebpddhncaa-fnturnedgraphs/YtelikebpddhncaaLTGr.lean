/-
  The walk of FnTurnedGraphs.
-/
import Derived.Test.YtelikebpddhncaaDrT
import Derived.Test.YtelikebpddhncaaSmG
import Derived.Test.YtelikebpddhncaaNxI
import Derived.Test.YtelikebpddhncaaGTrI
import Derived.Test.YtelikebpddhncaaGTrS
import Derived.Test.YtelikebpddhncaaGOk
import Derived.Test.YtelikebpddhncaaHld
namespace Go.Proofs.Ytelikebpddhncaa
open Go.RowKit

theorem gturn_len' {s : Int} {l : List Ed} {n m : Nat} (h : l.length = n) (hm : (gturn s l).length = m) : m = n := by
  unfold gturn at hm
  split at hm
  · rename_i ho; rw [turnL_len (okG_iff.1 ho).2.2.2] at hm; omega
  · omega
/-- two graphs in their boxes -/
structure TS (w wi : World) (P Q : Nat) (s : Int) (a a2 : Option Addr) (n c c2 : Nat) (L T : List Ed) : Prop where
  hold : Hold w wi [(Q, [.int .i64 s, .slice a2 n c2]), (P, [.int .i64 s, .slice a n c])]
  eg : EdgesIn 0 P wi a L
  et : EdgesIn 0 Q wi a2 T
  lt : P < Q ∧ Q < wi.heap.size
theorem TS.lp {w wi : World} {P Q : Nat} {s : Int} {a a2 : Option Addr} {n c c2 : Nat} {L T : List Ed} (h : TS w wi P Q s a a2 n c c2 L T) : P < wi.heap.size := by have := h.lt; omega
theorem TS.below {w wi wj : World} {P Q : Nat} {s : Int} {a a2 : Option Addr} {n c c2 : Nat} {L T : List Ed} (h : TS w wi P Q s a a2 n c c2 L T) (hb : Below wi.heap.size wi wj) : TS w wj P Q s a a2 n c c2 L T :=
  ⟨h.hold.below hb, h.eg.below hb (Nat.le_of_lt h.lp), h.et.below hb (Nat.le_of_lt h.lt.2), ⟨h.lt.1, Nat.lt_of_lt_of_le h.lt.2 hb.size⟩⟩
theorem TS.drew {w wi : World} {P Q : Nat} {s : Int} {a a2 : Option Addr} {n c c2 : Nat} {L T : List Ed} (h : TS w wi P Q s a a2 n c c2 L T) : TS w wi.drew P Q s a a2 n c c2 L T := h.below ((Below.refl _ _).drew)
theorem TS.cells {w wi : World} {P Q : Nat} {s : Int} {a a2 : Option Addr} {n c c2 : Nat} {L T : List Ed} (h : TS w wi P Q s a a2 n c c2 L T) :
    wi.cell? ⟨P, 0, none⟩ = some (.int .i64 s) ∧ wi.cell? ⟨P, 1, none⟩ = some (.slice a n c) ∧ wi.cell? ⟨Q, 0, none⟩ = some (.int .i64 s) ∧ wi.cell? ⟨Q, 1, none⟩ = some (.slice a2 n c2) :=
  ⟨h.hold.cell (b := P) (vs := [.int .i64 s, .slice a n c]) (i := 0) (by simp) (by simp), h.hold.cell (b := P) (vs := [.int .i64 s, .slice a n c]) (i := 1) (by simp) (by simp), h.hold.cell (b := Q) (vs := [.int .i64 s, .slice a2 n c2]) (i := 0) (by simp) (by simp), h.hold.cell (b := Q) (vs := [.int .i64 s, .slice a2 n c2]) (i := 1) (by simp) (by simp)⟩

set_option maxHeartbeats 8000000 in
set_option maxRecDepth 100000 in
theorem law_5 (a0 : Option Addr) (n0 cap0 : Nat) (w : World) (hc0 : CodeIn w a0 n0) :
    Calls Try.prog 5 #[.slice a0 n0 cap0] w fun e w' => e = .returned (.bool true) ∧ Below w.heap.size w w' := by
  by_cases hbig : (1048576 : Int) < (n0 : Int)
  · clear hc0
    go_enter Try.func5, Try.ntmps5
    go_wp2_with fail
    refine (big_yes a0 n0 cap0 w hbig).mono ?_
    rintro e w1 ⟨rfl, rfl⟩
    go_wp2
    go_ret
    exact ⟨rfl, Below.refl _ _⟩
  have hn : n0 ≤ 1048576 := by omega
  have HC : Hid (CodeIn w a0 n0) := hc0
  clear hc0 hbig
  go_enter Try.func5, Try.ntmps5
  go_wp2_with fail
  refine (big_no a0 n0 cap0 w hn).mono ?_
  rintro e w0 ⟨rfl, rfl⟩
  go_wp2_with fail
  refine (drawGraph_any w n0 cap0 a0 hn HC.out).mono ?_
  rintro e w1 ⟨s, a, n, c, L, rfl, HLN, HE1, HGD, HB1⟩
  obtain ⟨P, HP⟩ : ∃ P, Hid (w1.heap.size = P) := ⟨_, rfl⟩
  have HNS : Hid (n ≤ 10) := by show n ≤ 10; have := HGD.out.1.2.1; have := HLN.out; omega
  have HSRT := (okG_iff.1 HGD.out.1.1).2.2.2
  obtain ⟨T, HT⟩ : ∃ T, Hid (T = turnL L) := ⟨_, rfl⟩
  have HTN : Hid (T.length = n) := by show _ = _; rw [HT.out, turnL_len HSRT]; exact HLN.out
  have HOK : Hid (okG s T = true) := by show _ = _; rw [HT.out]; exact okG_turn HGD.out.1.1
  have HLL : Hid (gturn s T = L) := by show _ = _; unfold gturn; rw [if_pos HOK.out, HT.out]; exact turnL_turnL HSRT
  have HMM : Hid (∀ x0 x1 x2, (x0, x1, x2) ∈ L → x0 ∈ nextE T x2 x1) := fun x0 x1 x2 h => by rw [nextE_mem, HT.out, turnL_mem]; exact h
  have HGT : Hid (gturn s L = T) := by show _ = _; unfold gturn; rw [if_pos HGD.out.1.1, HT.out]
  clear HSRT HT HGD
  go_wp2_with fail
  rw [HP.out]
  refine (turned_any _ _ s a n c L _ (HE1.out.below (below1 w1 _) (Nat.le_refl _)) (by simp) HLN.out (by have := HNS.out; omega)).mono ?_
  rintro e w2 ⟨a2, n2, c2, rfl, HN2, HE2, HB2⟩
  rw [HGT.out] at HN2 HE2
  obtain rfl : n2 = n := HN2.out.symm.trans HTN.out
  obtain ⟨Q, HQ⟩ : ∃ Q, Hid (w2.heap.size = Q) := ⟨_, rfl⟩
  have HTS0 : Hid (TS w (w2.alloc (.cells #[.int .i64 s, .slice a2 n2 c2] 37)) P Q s a a2 n2 c c2 L T) := by
    have hs2 := HB2.out.size
    simp only [World.size_alloc] at hs2
    refine ⟨?_, ?_, ?_, ?_⟩
    · have h := (((Hold.none w).below HB1.out).more [.int .i64 s, .slice a n2 c] 37).below HB2.out
      have h' := h.more [.int .i64 s, .slice a2 n2 c2] 37
      rw [HP.out, HQ.out] at h'
      exact h'
    · rw [← HP.out]; exact (((HE1.out.below (below1 w1 _) (Nat.le_refl _)).below HB2.out (by simp)).below (below1 w2 _) (by omega)).wide (Nat.zero_le _) (Nat.le_refl _)
    · rw [← HQ.out]; exact (HE2.out.toIn.below (below1 w2 _) (Nat.le_refl _)).wide (Nat.zero_le _) (Nat.le_refl _)
    · rw [← HP.out, ← HQ.out]; exact ⟨by omega, by simp⟩
  clear HE1 HB1 HE2 HB2 HN2 HGT
  go_wp2
  rw [HQ.out]
  go_loopw [5] (fun i wr => ∃ k : Nat, i = .int .i64 k ∧ k ≤ n2 ∧ Hid (TS w wr P Q s a a2 n2 c c2 L T)) (fun i _ => n2 - (intOf i).toNat)
  case atStart => exact ⟨0, rfl, by omega, HTS0⟩
  case round =>
    obtain ⟨k, rfl, hk, HTS⟩ := hrel
    clear HTS0
    obtain ⟨q0, q1, q2, q3⟩ := HTS.out.cells
    by_cases hlt : k < n2
    · have hlt1 : (k : Int) < (n2 : Int) := by omega
      have hlt0 : (0 : Int) ≤ (k : Int) := by omega
      obtain ⟨b, o, rfl, _, _, hx⟩ := HTS.out.eg.edge (k := k) (by rw [HLN.out]; exact hlt)
      obtain ⟨x, HXX⟩ : ∃ x : Ed, Hid (x = eat L k) := ⟨_, rfl⟩
      rw [← HXX.out] at hx
      have HMEM0 : Hid (x ∈ L) := by rw [HXX.out, eat_get (by rw [HLN.out]; exact hlt)]; exact List.getElem_mem _
      obtain ⟨x0, x1, x2⟩ := x
      have HMEM : Hid (x0 ∈ nextE T x2 x1) := HMM.out x0 x1 x2 HMEM0.out
      obtain ⟨p0, p1, p2⟩ := hx
      dsimp only at p0 p1 p2
      have HKS : Hid (∀ w', Below wr.heap.size wr w' → (w'.cell? ⟨P, 0, none⟩ = some (.int .i64 s) ∧ w'.cell? ⟨P, 1, none⟩ = some (.slice (some ⟨b, o, none⟩) n2 c) ∧ w'.cell? ⟨Q, 0, none⟩ = some (.int .i64 s) ∧ w'.cell? ⟨Q, 1, none⟩ = some (.slice a2 n2 c2) ∧ w'.cell? ⟨b, o + k * 3, none⟩ = some (.int .i64 x0) ∧ w'.cell? ⟨b, o + k * 3 + 1, none⟩ = some (.int .u8 x1) ∧ w'.cell? ⟨b, o + k * 3 + 2, none⟩ = some (.int .i64 x2))) := fun w' h =>
        ⟨cell_below q0 h (lt_of_cell q0), cell_below q1 h (lt_of_cell q1), cell_below q2 h (lt_of_cell q2), cell_below q3 h (lt_of_cell q3), cell_below p0 h (lt_of_cell p0), cell_below p1 h (lt_of_cell p1), cell_below p2 h (lt_of_cell p2)⟩
      clear HMEM0 HXX HMM
      go_wp2_with fail
      refine wp_region_held_drew (S := fun w' => w'.cell? ⟨P, 0, none⟩ = some (.int .i64 s) ∧ w'.cell? ⟨P, 1, none⟩ = some (.slice (some ⟨b, o, none⟩) n2 c) ∧ w'.cell? ⟨Q, 0, none⟩ = some (.int .i64 s) ∧ w'.cell? ⟨Q, 1, none⟩ = some (.slice a2 n2 c2) ∧ w'.cell? ⟨b, o + k * 3, none⟩ = some (.int .i64 x0) ∧ w'.cell? ⟨b, o + k * 3 + 1, none⟩ = some (.int .u8 x1) ∧ w'.cell? ⟨b, o + k * 3 + 2, none⟩ = some (.int .i64 x2)) (by kernel_rfl) ⟨q0, q1, q2, q3, p0, p1, p2⟩ (fun hHeld => ?_)
      clear q0 q1 q2 q3 p0 p1 p2
      refine wpAnyH_take (i := 0) (oi := { dst := some 20, op := Go.Op.load 37 (Go.Operand.tmp 4), type := 37, pos := "laws.go:360", after := #[], guard := none }) (v := ?_) rfl (by kernel_rfl) (by kernel_rfl) (by kernel_rfl) (fun _ _ _ h => h) (Or.inl ⟨by kernel_rfl, ?_⟩) (by assumption) ?_
      rotate_left
      · intro w hSw; (try dsimp only at hSw); go_simp; try with_reducible rfl
      simp only [Act.put, List.setIfInBounds_toArray, List.set_cons_zero, List.set_cons_succ]
      refine wpAnyH_take (i := 1) (oi := { dst := some 21, op := Go.Op.fieldAddr 37 (Go.Operand.tmp 3) 1, type := 0, pos := "laws.go:360", after := #[], guard := none }) (v := ?_) rfl (by kernel_rfl) (by kernel_rfl) (by kernel_rfl) (fun _ _ _ h => h) (Or.inl ⟨by kernel_rfl, ?_⟩) (by assumption) ?_
      rotate_left
      · intro w hSw; (try dsimp only at hSw); go_simp; try with_reducible rfl
      simp only [Act.put, List.setIfInBounds_toArray, List.set_cons_zero, List.set_cons_succ]
      refine wpAnyH_take (i := 2) (oi := { dst := some 22, op := Go.Op.load 35 (Go.Operand.tmp 21), type := 35, pos := "laws.go:360", after := #[{ on := 1, ground := Go.Ground.data }], guard := none }) (v := ?_) rfl (by kernel_rfl) (by kernel_rfl) (by kernel_rfl) (fun _ _ _ h => h) (Or.inl ⟨by kernel_rfl, ?_⟩) (by assumption) ?_
      rotate_left
      · intro w hSw; (try dsimp only at hSw); go_simp; try with_reducible rfl
      simp only [Act.put, List.setIfInBounds_toArray, List.set_cons_zero, List.set_cons_succ]
      refine wpAnyH_take (i := 3) (oi := { dst := some 23, op := Go.Op.move (Go.Operand.tmp 5), type := 3, pos := "laws.go:360", after := #[], guard := none }) (v := ?_) rfl (by kernel_rfl) (by kernel_rfl) (by kernel_rfl) (fun _ _ _ h => h) (Or.inl ⟨by kernel_rfl, ?_⟩) (by assumption) ?_
      rotate_left
      · intro w hSw; (try dsimp only at hSw); go_simp; try with_reducible rfl
      simp only [Act.put, List.setIfInBounds_toArray, List.set_cons_zero, List.set_cons_succ]
      refine wpAnyH_take (i := 4) (oi := { dst := some 24, op := Go.Op.indexAddr 35 (Go.Operand.tmp 22) (Go.Operand.tmp 23), type := 0, pos := "laws.go:360", after := #[{ on := 2, ground := Go.Ground.data }, { on := 3, ground := Go.Ground.data }], guard := none }) (v := ?_) rfl (by kernel_rfl) (by kernel_rfl) (by kernel_rfl) (fun _ _ _ h => h) (Or.inl ⟨by kernel_rfl, ?_⟩) (by assumption) ?_
      rotate_left
      · intro w hSw; (try dsimp only at hSw); go_simp; try with_reducible rfl
      simp only [Act.put, List.setIfInBounds_toArray, List.set_cons_zero, List.set_cons_succ]
      refine wpAnyH_take (i := 5) (oi := { dst := some 25, op := Go.Op.fieldAddr 42 (Go.Operand.tmp 24) 2, type := 0, pos := "laws.go:360", after := #[{ on := 4, ground := Go.Ground.data }], guard := none }) (v := ?_) rfl (by kernel_rfl) (by kernel_rfl) (by kernel_rfl) (fun _ _ _ h => h) (Or.inl ⟨by kernel_rfl, ?_⟩) (by assumption) ?_
      rotate_left
      · intro w hSw; (try dsimp only at hSw); go_simp; try with_reducible rfl
      simp only [Act.put, List.setIfInBounds_toArray, List.set_cons_zero, List.set_cons_succ]
      refine wpAnyH_take (i := 6) (oi := { dst := some 26, op := Go.Op.load 3 (Go.Operand.tmp 25), type := 3, pos := "laws.go:360", after := #[{ on := 5, ground := Go.Ground.data }], guard := none }) (v := ?_) rfl (by kernel_rfl) (by kernel_rfl) (by kernel_rfl) (fun _ _ _ h => h) (Or.inl ⟨by kernel_rfl, ?_⟩) (by assumption) ?_
      rotate_left
      · intro w hSw; (try dsimp only at hSw); go_simp; try with_reducible rfl
      simp only [Act.put, List.setIfInBounds_toArray, List.set_cons_zero, List.set_cons_succ]
      refine wpAnyH_take (i := 7) (oi := { dst := some 27, op := Go.Op.fieldAddr 37 (Go.Operand.tmp 3) 1, type := 0, pos := "laws.go:360", after := #[], guard := none }) (v := ?_) rfl (by kernel_rfl) (by kernel_rfl) (by kernel_rfl) (fun _ _ _ h => h) (Or.inl ⟨by kernel_rfl, ?_⟩) (by assumption) ?_
      rotate_left
      · intro w hSw; (try dsimp only at hSw); go_simp; try with_reducible rfl
      simp only [Act.put, List.setIfInBounds_toArray, List.set_cons_zero, List.set_cons_succ]
      refine wpAnyH_take (i := 8) (oi := { dst := some 28, op := Go.Op.load 35 (Go.Operand.tmp 27), type := 35, pos := "laws.go:360", after := #[{ on := 7, ground := Go.Ground.data }], guard := none }) (v := ?_) rfl (by kernel_rfl) (by kernel_rfl) (by kernel_rfl) (fun _ _ _ h => h) (Or.inl ⟨by kernel_rfl, ?_⟩) (by assumption) ?_
      rotate_left
      · intro w hSw; (try dsimp only at hSw); go_simp; try with_reducible rfl
      simp only [Act.put, List.setIfInBounds_toArray, List.set_cons_zero, List.set_cons_succ]
      refine wpAnyH_take (i := 9) (oi := { dst := some 29, op := Go.Op.move (Go.Operand.tmp 5), type := 3, pos := "laws.go:360", after := #[], guard := none }) (v := ?_) rfl (by kernel_rfl) (by kernel_rfl) (by kernel_rfl) (fun _ _ _ h => h) (Or.inl ⟨by kernel_rfl, ?_⟩) (by assumption) ?_
      rotate_left
      · intro w hSw; (try dsimp only at hSw); go_simp; try with_reducible rfl
      simp only [Act.put, List.setIfInBounds_toArray, List.set_cons_zero, List.set_cons_succ]
      refine wpAnyH_take (i := 10) (oi := { dst := some 30, op := Go.Op.indexAddr 35 (Go.Operand.tmp 28) (Go.Operand.tmp 29), type := 0, pos := "laws.go:360", after := #[{ on := 8, ground := Go.Ground.data }, { on := 9, ground := Go.Ground.data }], guard := none }) (v := ?_) rfl (by kernel_rfl) (by kernel_rfl) (by kernel_rfl) (fun _ _ _ h => h) (Or.inl ⟨by kernel_rfl, ?_⟩) (by assumption) ?_
      rotate_left
      · intro w hSw; (try dsimp only at hSw); go_simp; try with_reducible rfl
      simp only [Act.put, List.setIfInBounds_toArray, List.set_cons_zero, List.set_cons_succ]
      refine wpAnyH_take (i := 11) (oi := { dst := some 31, op := Go.Op.fieldAddr 42 (Go.Operand.tmp 30) 1, type := 0, pos := "laws.go:360", after := #[{ on := 10, ground := Go.Ground.data }], guard := none }) (v := ?_) rfl (by kernel_rfl) (by kernel_rfl) (by kernel_rfl) (fun _ _ _ h => h) (Or.inl ⟨by kernel_rfl, ?_⟩) (by assumption) ?_
      rotate_left
      · intro w hSw; (try dsimp only at hSw); go_simp; try with_reducible rfl
      simp only [Act.put, List.setIfInBounds_toArray, List.set_cons_zero, List.set_cons_succ]
      refine wpAnyH_take (i := 12) (oi := { dst := some 32, op := Go.Op.load 5 (Go.Operand.tmp 31), type := 5, pos := "laws.go:360", after := #[{ on := 11, ground := Go.Ground.data }], guard := none }) (v := ?_) rfl (by kernel_rfl) (by kernel_rfl) (by kernel_rfl) (fun _ _ _ h => h) (Or.inl ⟨by kernel_rfl, ?_⟩) (by assumption) ?_
      rotate_left
      · intro w hSw; (try dsimp only at hSw); go_simp; try with_reducible rfl
      simp only [Act.put, List.setIfInBounds_toArray, List.set_cons_zero, List.set_cons_succ]
      refine wpAnyH_take (i := 14) (oi := { dst := some 34, op := Go.Op.fieldAddr 37 (Go.Operand.tmp 3) 1, type := 0, pos := "laws.go:360", after := #[], guard := none }) (v := ?_) rfl (by kernel_rfl) (by kernel_rfl) (by kernel_rfl) (fun _ _ _ h => h) (Or.inl ⟨by kernel_rfl, ?_⟩) (by assumption) ?_
      rotate_left
      · intro w hSw; (try dsimp only at hSw); go_simp; try with_reducible rfl
      simp only [Act.put, List.setIfInBounds_toArray, List.set_cons_zero, List.set_cons_succ]
      refine wpAnyH_take (i := 15) (oi := { dst := some 35, op := Go.Op.load 35 (Go.Operand.tmp 34), type := 35, pos := "laws.go:360", after := #[{ on := 14, ground := Go.Ground.data }], guard := none }) (v := ?_) rfl (by kernel_rfl) (by kernel_rfl) (by kernel_rfl) (fun _ _ _ h => h) (Or.inl ⟨by kernel_rfl, ?_⟩) (by assumption) ?_
      rotate_left
      · intro w hSw; (try dsimp only at hSw); go_simp; try with_reducible rfl
      simp only [Act.put, List.setIfInBounds_toArray, List.set_cons_zero, List.set_cons_succ]
      refine wpAnyH_take (i := 16) (oi := { dst := some 36, op := Go.Op.move (Go.Operand.tmp 5), type := 3, pos := "laws.go:360", after := #[], guard := none }) (v := ?_) rfl (by kernel_rfl) (by kernel_rfl) (by kernel_rfl) (fun _ _ _ h => h) (Or.inl ⟨by kernel_rfl, ?_⟩) (by assumption) ?_
      rotate_left
      · intro w hSw; (try dsimp only at hSw); go_simp; try with_reducible rfl
      simp only [Act.put, List.setIfInBounds_toArray, List.set_cons_zero, List.set_cons_succ]
      refine wpAnyH_take (i := 17) (oi := { dst := some 37, op := Go.Op.indexAddr 35 (Go.Operand.tmp 35) (Go.Operand.tmp 36), type := 0, pos := "laws.go:360", after := #[{ on := 15, ground := Go.Ground.data }, { on := 16, ground := Go.Ground.data }], guard := none }) (v := ?_) rfl (by kernel_rfl) (by kernel_rfl) (by kernel_rfl) (fun _ _ _ h => h) (Or.inl ⟨by kernel_rfl, ?_⟩) (by assumption) ?_
      rotate_left
      · intro w hSw; (try dsimp only at hSw); go_simp; try with_reducible rfl
      simp only [Act.put, List.setIfInBounds_toArray, List.set_cons_zero, List.set_cons_succ]
      refine wpAnyH_take (i := 18) (oi := { dst := some 38, op := Go.Op.fieldAddr 42 (Go.Operand.tmp 37) 0, type := 0, pos := "laws.go:360", after := #[{ on := 17, ground := Go.Ground.data }], guard := none }) (v := ?_) rfl (by kernel_rfl) (by kernel_rfl) (by kernel_rfl) (fun _ _ _ h => h) (Or.inl ⟨by kernel_rfl, ?_⟩) (by assumption) ?_
      rotate_left
      · intro w hSw; (try dsimp only at hSw); go_simp; try with_reducible rfl
      simp only [Act.put, List.setIfInBounds_toArray, List.set_cons_zero, List.set_cons_succ]
      refine wpAnyH_take (i := 19) (oi := { dst := some 39, op := Go.Op.load 3 (Go.Operand.tmp 38), type := 3, pos := "laws.go:360", after := #[{ on := 18, ground := Go.Ground.data }], guard := none }) (v := ?_) rfl (by kernel_rfl) (by kernel_rfl) (by kernel_rfl) (fun _ _ _ h => h) (Or.inl ⟨by kernel_rfl, ?_⟩) (by assumption) ?_
      rotate_left
      · intro w hSw; (try dsimp only at hSw); go_simp; try with_reducible rfl
      simp only [Act.put, List.setIfInBounds_toArray, List.set_cons_zero, List.set_cons_succ]
      refine wpAnyH_ready (rs := [13]) (by kernel_rfl) (by simp) ?_
      refine AllReadyH.cons (o := { dst := some 33, op := Go.Op.call { callee := Go.Callee.value (Go.Operand.func 28), args := #[Go.Operand.tmp 20, Go.Operand.tmp 26, Go.Operand.tmp 32], argTypes := #[37, 3, 5] }, type := 39, pos := "laws.go:360", after := #[{ on := 0, ground := Go.Ground.data }, { on := 6, ground := Go.Ground.data }, { on := 12, ground := Go.Ground.data }], guard := none }) rfl (fun K hK => ?_) ?_
      · go_simp
        go_wp2_with (go_at_call 28; refine (nextOf_any 0 Q s a2 n2 c2 T x2 x1 _ (HTS.out.drew.et) (Nat.le_of_lt HTS.out.lt.2) HTN.out (by have := HNS.out; omega)).mono ?_; rintro e w3 ⟨a3, n3, c3, rfl, HN3, HR3, HB3⟩)
        have HB3' : Hid (Below wr.heap.size wr w3) := ((Below.refl wr.heap.size wr).drew).trans HB3.out
        have hk3 := HKS.out _ HB3'.out
        refine hK.out _ _ hk3 (fun hHeld => ?_)
        clear hK K
        try simp only [Act.put, List.setIfInBounds_toArray, List.set_cons_zero, List.set_cons_succ]
        refine wpAnyH_ready (rs := [20]) (by kernel_rfl) (by simp) ?_
        refine AllReadyH.cons (o := { dst := some 40, op := Go.Op.call { callee := Go.Callee.value (Go.Operand.func 26), args := #[Go.Operand.tmp 33, Go.Operand.tmp 39], argTypes := #[39, 3] }, type := 4, pos := "laws.go:360", after := #[{ on := 13, ground := Go.Ground.data }, { on := 19, ground := Go.Ground.data }, { on := 13, ground := Go.Ground.chain }], guard := none }) rfl (fun K hK => ?_) ?_
        · go_simp
          go_wp2_with (go_at_call 26; refine (in_any _ _ a3 n3 c3 (nextE T x2 x1) x0 w3 HR3.out.toIn HN3.out (by have := nextE_len T x2 x1; have := HN3.out; have := HTN.out; have := HNS.out; omega) HMEM.out).mono ?_; rintro e w4 ⟨rfl, HB4⟩)
          have HB4' : Hid (Below wr.heap.size wr w4) := HB3'.out.trans (HB4.out.mono HB3'.out.size)
          have hk4 := HKS.out _ HB4'.out
          refine hK.out _ _ hk4 (fun hHeld => ?_)
          clear hK K
          try simp only [Act.put, List.setIfInBounds_toArray, List.set_cons_zero, List.set_cons_succ]
          refine wpAnyH_take (i := 21) (oi := { dst := some 41, op := Go.Op.unOp Go.UnOp.not 4 (Go.Operand.tmp 40), type := 4, pos := "laws.go:360", after := #[{ on := 20, ground := Go.Ground.data }], guard := none }) (v := ?_) rfl (by kernel_rfl) (by kernel_rfl) (by kernel_rfl) (fun _ _ _ h => h) (Or.inl ⟨by kernel_rfl, ?_⟩) (by assumption) ?_
          rotate_left
          · intro w hSw; (try dsimp only at hSw); go_simp; try with_reducible rfl
          simp only [Act.put, List.setIfInBounds_toArray, List.set_cons_zero, List.set_cons_succ]
          refine wpAnyH_done (by kernel_rfl) ?_ _
          clear hHeld hk3 hk4
          have hn10 : n2 ≤ 10 := HNS.out
          go_wp2
          go_roundw
          case rel => exact ⟨k + 1, by go_num, by omega, HTS.out.below HB4'.out⟩
          case measure => simp [intOf]; omega
        exact AllReadyH.nil
      exact AllReadyH.nil
    · obtain rfl : k = n2 := by omega
      go_wp2_with fail
      refine (drawTurned_any wr n0 cap0 a0 hn (HC.out.below HTS.out.hold.bel)).mono ?_
      rintro e w6 ⟨sx, ax, nx, cx, X, rfl, HXN, HEX0, HX11, HB6⟩
      obtain ⟨R, HR⟩ : ∃ R, Hid (w6.heap.size = R) := ⟨_, rfl⟩
      go_upto_region 11 with fail
      rw [HR.out]
      obtain ⟨WX, HWX⟩ : ∃ WX, Hid (WX = w6.alloc (.cells #[.int .i64 sx, .slice ax nx cx] 37)) := ⟨_, rfl⟩
      rw [← HWX.out]
      have HTX : Hid (TS w WX P Q s a a2 k c c2 L T) := by rw [HWX.out]; exact (HTS.out.below HB6.out).below (below1 w6 _)
      have HBX : Hid (Blk WX R 2 (fun i => if i = 0 then .int .i64 sx else .slice ax nx cx)) := by rw [HWX.out]; exact blk_two w6 R HR.out.symm _ _ _
      have HEX : Hid (EdgesIn 0 R WX ax X) := by rw [HWX.out, ← HR.out]; exact (HEX0.out.below (below1 w6 _) (Nat.le_refl _)).wide (Nat.zero_le _) (Nat.le_refl _)
      have HRX : Hid (R < WX.heap.size) := HBX.out.lt
      clear HWX HEX0 HB6 HTS q0 q1 q2 q3
      obtain ⟨q0, q1, q2, q3⟩ := HTX.out.cells
      obtain ⟨r0, r1⟩ := blk_pair_cells HBX.out
      have HKX : Hid (∀ w', Below WX.heap.size WX w' → (w'.cell? ⟨P, 0, none⟩ = some (.int .i64 s) ∧ w'.cell? ⟨P, 1, none⟩ = some (.slice a k c) ∧ w'.cell? ⟨Q, 0, none⟩ = some (.int .i64 s) ∧ w'.cell? ⟨Q, 1, none⟩ = some (.slice a2 k c2) ∧ w'.cell? ⟨R, 0, none⟩ = some (.int .i64 sx) ∧ w'.cell? ⟨R, 1, none⟩ = some (.slice ax nx cx))) := fun w' h =>
        ⟨cell_below q0 h (lt_of_cell q0), cell_below q1 h (lt_of_cell q1), cell_below q2 h (lt_of_cell q2), cell_below q3 h (lt_of_cell q3), cell_below r0 h (lt_of_cell r0), cell_below r1 h (lt_of_cell r1)⟩
      refine wp_region_held_drew (S := fun w' => w'.cell? ⟨P, 0, none⟩ = some (.int .i64 s) ∧ w'.cell? ⟨P, 1, none⟩ = some (.slice a k c) ∧ w'.cell? ⟨Q, 0, none⟩ = some (.int .i64 s) ∧ w'.cell? ⟨Q, 1, none⟩ = some (.slice a2 k c2) ∧ w'.cell? ⟨R, 0, none⟩ = some (.int .i64 sx) ∧ w'.cell? ⟨R, 1, none⟩ = some (.slice ax nx cx)) (by kernel_rfl) ⟨q0, q1, q2, q3, r0, r1⟩ (fun hHeld => ?_)
      clear q0 q1 q2 q3 r0 r1
      refine wpAnyH_take (i := 0) (oi := { dst := some 44, op := Go.Op.load 37 (Go.Operand.tmp 4), type := 37, pos := "laws.go:365", after := #[], guard := none }) (v := ?_) rfl (by kernel_rfl) (by kernel_rfl) (by kernel_rfl) (fun _ _ _ h => h) (Or.inl ⟨by kernel_rfl, ?_⟩) (by assumption) ?_
      rotate_left
      · intro w hSw; (try dsimp only at hSw); go_simp; try with_reducible rfl
      simp only [Act.put, List.setIfInBounds_toArray, List.set_cons_zero, List.set_cons_succ]
      refine wpAnyH_take (i := 2) (oi := { dst := some 46, op := Go.Op.load 37 (Go.Operand.tmp 3), type := 37, pos := "laws.go:365", after := #[], guard := none }) (v := ?_) rfl (by kernel_rfl) (by kernel_rfl) (by kernel_rfl) (fun _ _ _ h => h) (Or.inl ⟨by kernel_rfl, ?_⟩) (by assumption) ?_
      rotate_left
      · intro w hSw; (try dsimp only at hSw); go_simp; try with_reducible rfl
      simp only [Act.put, List.setIfInBounds_toArray, List.set_cons_zero, List.set_cons_succ]
      refine wpAnyH_ready (rs := [1]) (by kernel_rfl) (by simp) ?_
      refine AllReadyH.cons (o := { dst := some 45, op := Go.Op.call { callee := Go.Callee.value (Go.Operand.func 32), args := #[Go.Operand.tmp 44], argTypes := #[37] }, type := 37, pos := "laws.go:365", after := #[{ on := 0, ground := Go.Ground.data }], guard := none }) rfl (fun K hK => ?_) ?_
      · go_simp
        go_wp2_with (go_at_call 32; refine (turned_any 0 Q s a2 k c2 T _ (HTX.out.drew.et) (Nat.le_of_lt HTX.out.lt.2) HTN.out (by have := HNS.out; omega)).mono ?_; rintro e w7 ⟨a7, n7, c7, rfl, HN7, HE7, C7⟩)
        have D7 : Hid (Below WX.heap.size WX w7) := ((Below.refl WX.heap.size WX).drew).trans C7.out
        rw [HLL.out] at HN7 HE7
        obtain rfl : n7 = k := HN7.out.symm.trans HLN.out
        have hk_w7 := HKX.out _ D7.out
        refine hK.out _ _ hk_w7 (fun hHeld => ?_)
        clear hK K
        try simp only [Act.put, List.setIfInBounds_toArray, List.set_cons_zero, List.set_cons_succ]
        refine wpAnyH_ready (rs := [3]) (by kernel_rfl) (by simp) ?_
        refine AllReadyH.cons (o := { dst := some 47, op := Go.Op.call { callee := Go.Callee.value (Go.Operand.func 29), args := #[Go.Operand.tmp 45, Go.Operand.tmp 46], argTypes := #[37, 37] }, type := 4, pos := "laws.go:365", after := #[{ on := 1, ground := Go.Ground.data }, { on := 2, ground := Go.Ground.data }, { on := 1, ground := Go.Ground.chain }], guard := none }) rfl (fun K hK => ?_) ?_
        · go_simp
          go_wp2_with (go_at_call 29; refine (sameGraph_any _ w7.heap.size 0 P s a7 a n7 c7 c L w7 HE7.out.toIn (HTX.out.below D7.out).eg (Nat.le_refl _) (Nat.le_trans (Nat.le_of_lt HTX.out.lp) D7.out.size) HLN.out (by have := HNS.out; omega)).mono ?_; rintro e w8 ⟨rfl, C8⟩)
          have D8 : Hid (Below WX.heap.size WX w8) := D7.out.trans (C8.out.mono D7.out.size)
          have hk_w8 := HKX.out _ D8.out
          refine hK.out _ _ hk_w8 (fun hHeld => ?_)
          clear hK K
          try simp only [Act.put, List.setIfInBounds_toArray, List.set_cons_zero, List.set_cons_succ]
          refine wpAnyH_take (i := 4) (oi := { dst := some 48, op := Go.Op.move (Go.Operand.tmp 47), type := 4, pos := "laws.go:365", after := #[{ on := 3, ground := Go.Ground.data }, { on := 3, ground := Go.Ground.chain }], guard := none }) (v := ?_) rfl (by kernel_rfl) (by kernel_rfl) (by kernel_rfl) (fun _ _ _ h => h) (Or.inl ⟨by kernel_rfl, ?_⟩) (by assumption) ?_
          rotate_left
          · intro w hSw; (try dsimp only at hSw); go_simp; try with_reducible rfl
          simp only [Act.put, List.setIfInBounds_toArray, List.set_cons_zero, List.set_cons_succ]
          refine wpAnyH_take (i := 5) (oi := { dst := some 49, op := Go.Op.fieldAddr 37 (Go.Operand.tmp 4) 1, type := 0, pos := "laws.go:365", after := #[{ on := 4, ground := Go.Ground.guard }], guard := some (4, true) }) (v := ?_) rfl (by kernel_rfl) (by kernel_rfl) (by kernel_rfl) (fun _ _ _ h => h) (Or.inl ⟨by kernel_rfl, ?_⟩) (by assumption) ?_
          rotate_left
          · intro w hSw; (try dsimp only at hSw); go_simp; try with_reducible rfl
          simp only [Act.put, List.setIfInBounds_toArray, List.set_cons_zero, List.set_cons_succ]
          refine wpAnyH_take (i := 6) (oi := { dst := some 50, op := Go.Op.load 35 (Go.Operand.tmp 49), type := 35, pos := "laws.go:365", after := #[{ on := 5, ground := Go.Ground.data }, { on := 4, ground := Go.Ground.guard }], guard := some (4, true) }) (v := ?_) rfl (by kernel_rfl) (by kernel_rfl) (by kernel_rfl) (fun _ _ _ h => h) (Or.inl ⟨by kernel_rfl, ?_⟩) (by assumption) ?_
          rotate_left
          · intro w hSw; (try dsimp only at hSw); go_simp; try with_reducible rfl
          simp only [Act.put, List.setIfInBounds_toArray, List.set_cons_zero, List.set_cons_succ]
          refine wpAnyH_take (i := 7) (oi := { dst := some 51, op := Go.Op.call { callee := Go.Callee.builtin Go.Builtin.len, args := #[Go.Operand.tmp 50], argTypes := #[35] }, type := 3, pos := "laws.go:365", after := #[{ on := 6, ground := Go.Ground.data }, { on := 4, ground := Go.Ground.guard }], guard := some (4, true) }) (v := ?_) rfl (by kernel_rfl) (by kernel_rfl) (by kernel_rfl) (fun _ _ _ h => h) (Or.inl ⟨by kernel_rfl, ?_⟩) (by assumption) ?_
          rotate_left
          · intro w hSw; (try dsimp only at hSw); go_simp; try with_reducible rfl
          simp only [Act.put, List.setIfInBounds_toArray, List.set_cons_zero, List.set_cons_succ]
          refine wpAnyH_take (i := 8) (oi := { dst := some 52, op := Go.Op.fieldAddr 37 (Go.Operand.tmp 3) 1, type := 0, pos := "laws.go:365", after := #[{ on := 4, ground := Go.Ground.guard }], guard := some (4, true) }) (v := ?_) rfl (by kernel_rfl) (by kernel_rfl) (by kernel_rfl) (fun _ _ _ h => h) (Or.inl ⟨by kernel_rfl, ?_⟩) (by assumption) ?_
          rotate_left
          · intro w hSw; (try dsimp only at hSw); go_simp; try with_reducible rfl
          simp only [Act.put, List.setIfInBounds_toArray, List.set_cons_zero, List.set_cons_succ]
          refine wpAnyH_take (i := 9) (oi := { dst := some 53, op := Go.Op.load 35 (Go.Operand.tmp 52), type := 35, pos := "laws.go:365", after := #[{ on := 8, ground := Go.Ground.data }, { on := 4, ground := Go.Ground.guard }], guard := some (4, true) }) (v := ?_) rfl (by kernel_rfl) (by kernel_rfl) (by kernel_rfl) (fun _ _ _ h => h) (Or.inl ⟨by kernel_rfl, ?_⟩) (by assumption) ?_
          rotate_left
          · intro w hSw; (try dsimp only at hSw); go_simp; try with_reducible rfl
          simp only [Act.put, List.setIfInBounds_toArray, List.set_cons_zero, List.set_cons_succ]
          refine wpAnyH_take (i := 10) (oi := { dst := some 54, op := Go.Op.call { callee := Go.Callee.builtin Go.Builtin.len, args := #[Go.Operand.tmp 53], argTypes := #[35] }, type := 3, pos := "laws.go:365", after := #[{ on := 9, ground := Go.Ground.data }, { on := 4, ground := Go.Ground.guard }], guard := some (4, true) }) (v := ?_) rfl (by kernel_rfl) (by kernel_rfl) (by kernel_rfl) (fun _ _ _ h => h) (Or.inl ⟨by kernel_rfl, ?_⟩) (by assumption) ?_
          rotate_left
          · intro w hSw; (try dsimp only at hSw); go_simp; try with_reducible rfl
          simp only [Act.put, List.setIfInBounds_toArray, List.set_cons_zero, List.set_cons_succ]
          refine wpAnyH_take (i := 11) (oi := { dst := some 55, op := Go.Op.binOp Go.BinOp.eql 3 (Go.Operand.tmp 51) (Go.Operand.tmp 54) 3, type := 4, pos := "laws.go:365", after := #[{ on := 7, ground := Go.Ground.data }, { on := 10, ground := Go.Ground.data }, { on := 4, ground := Go.Ground.guard }], guard := some (4, true) }) (v := ?_) rfl (by kernel_rfl) (by kernel_rfl) (by kernel_rfl) (fun _ _ _ h => h) (Or.inl ⟨by kernel_rfl, ?_⟩) (by assumption) ?_
          rotate_left
          · intro w hSw; (try dsimp only at hSw); go_simp; try with_reducible rfl
          simp only [Act.put, List.setIfInBounds_toArray, List.set_cons_zero, List.set_cons_succ]
          refine wpAnyH_take (i := 12) (oi := { dst := some 56, op := Go.Op.pick (Go.Operand.tmp 48) (Go.Operand.tmp 55) (Go.Operand.const (Go.Value.bool false)), type := 4, pos := "laws.go:365", after := #[{ on := 4, ground := Go.Ground.data }, { on := 11, ground := Go.Ground.data }], guard := none }) (v := ?_) rfl (by kernel_rfl) (by kernel_rfl) (by kernel_rfl) (fun _ _ _ h => h) (Or.inl ⟨by kernel_rfl, ?_⟩) (by assumption) ?_
          rotate_left
          · intro w hSw; (try dsimp only at hSw); go_simp; try with_reducible rfl
          simp only [Act.put, List.setIfInBounds_toArray, List.set_cons_zero, List.set_cons_succ]
          refine wpAnyH_take (i := 13) (oi := { dst := some 57, op := Go.Op.move (Go.Operand.tmp 56), type := 4, pos := "laws.go:365", after := #[{ on := 12, ground := Go.Ground.data }, { on := 4, ground := Go.Ground.chain }], guard := none }) (v := ?_) rfl (by kernel_rfl) (by kernel_rfl) (by kernel_rfl) (fun _ _ _ h => h) (Or.inl ⟨by kernel_rfl, ?_⟩) (by assumption) ?_
          rotate_left
          · intro w hSw; (try dsimp only at hSw); go_simp; try with_reducible rfl
          simp only [Act.put, List.setIfInBounds_toArray, List.set_cons_zero, List.set_cons_succ]
          refine wpAnyH_take (i := 14) (oi := { dst := some 58, op := Go.Op.load 37 (Go.Operand.tmp 4), type := 37, pos := "laws.go:365", after := #[{ on := 13, ground := Go.Ground.guard }], guard := some (13, true) }) (v := ?_) rfl (by kernel_rfl) (by kernel_rfl) (by kernel_rfl) (fun _ _ _ h => h) (Or.inl ⟨by kernel_rfl, ?_⟩) (by assumption) ?_
          rotate_left
          · intro w hSw; (try dsimp only at hSw); go_simp; try with_reducible rfl
          simp only [Act.put, List.setIfInBounds_toArray, List.set_cons_zero, List.set_cons_succ]
          refine wpAnyH_ready (rs := [15]) (by kernel_rfl) (by simp) ?_
          refine AllReadyH.cons (o := { dst := some 59, op := Go.Op.call { callee := Go.Callee.value (Go.Operand.func 30), args := #[Go.Operand.tmp 58], argTypes := #[37] }, type := 4, pos := "laws.go:365", after := #[{ on := 14, ground := Go.Ground.data }, { on := 13, ground := Go.Ground.chain }, { on := 13, ground := Go.Ground.guard }], guard := some (13, true) }) rfl (fun K hK => ?_) ?_
          · go_simp
            go_wp2_with (go_at_call 30; refine (graphOk_any 0 Q s a2 n7 c2 T true w8 (HTX.out.below D8.out).et (Nat.le_trans (Nat.le_of_lt HTX.out.lt.2) D8.out.size) HTN.out (by have := HNS.out; omega) HOK.out.symm).mono ?_; rintro e w9 ⟨rfl, C9⟩)
            have D9 : Hid (Below WX.heap.size WX w9) := D8.out.trans (C9.out.mono D8.out.size)
            have hk_w9 := HKX.out _ D9.out
            refine hK.out _ _ hk_w9 (fun hHeld => ?_)
            clear hK K
            try simp only [Act.put, List.setIfInBounds_toArray, List.set_cons_zero, List.set_cons_succ]
            refine wpAnyH_take (i := 16) (oi := { dst := some 60, op := Go.Op.pick (Go.Operand.tmp 57) (Go.Operand.tmp 59) (Go.Operand.const (Go.Value.bool false)), type := 4, pos := "laws.go:365", after := #[{ on := 13, ground := Go.Ground.data }, { on := 15, ground := Go.Ground.data }], guard := none }) (v := ?_) rfl (by kernel_rfl) (by kernel_rfl) (by kernel_rfl) (fun _ _ _ h => h) (Or.inl ⟨by kernel_rfl, ?_⟩) (by assumption) ?_
            rotate_left
            · intro w hSw; (try dsimp only at hSw); go_simp; try with_reducible rfl
            simp only [Act.put, List.setIfInBounds_toArray, List.set_cons_zero, List.set_cons_succ]
            refine wpAnyH_take (i := 17) (oi := { dst := some 61, op := Go.Op.move (Go.Operand.tmp 60), type := 4, pos := "laws.go:365", after := #[{ on := 16, ground := Go.Ground.data }, { on := 15, ground := Go.Ground.chain }], guard := none }) (v := ?_) rfl (by kernel_rfl) (by kernel_rfl) (by kernel_rfl) (fun _ _ _ h => h) (Or.inl ⟨by kernel_rfl, ?_⟩) (by assumption) ?_
            rotate_left
            · intro w hSw; (try dsimp only at hSw); go_simp; try with_reducible rfl
            simp only [Act.put, List.setIfInBounds_toArray, List.set_cons_zero, List.set_cons_succ]
            refine wpAnyH_take (i := 18) (oi := { dst := some 62, op := Go.Op.load 37 (Go.Operand.tmp 6), type := 37, pos := "laws.go:365", after := #[{ on := 17, ground := Go.Ground.guard }], guard := some (17, true) }) (v := ?_) rfl (by kernel_rfl) (by kernel_rfl) (by kernel_rfl) (fun _ _ _ h => h) (Or.inl ⟨by kernel_rfl, ?_⟩) (by assumption) ?_
            rotate_left
            · intro w hSw; (try dsimp only at hSw); go_simp; try with_reducible rfl
            simp only [Act.put, List.setIfInBounds_toArray, List.set_cons_zero, List.set_cons_succ]
            refine wpAnyH_take (i := 20) (oi := { dst := some 64, op := Go.Op.load 37 (Go.Operand.tmp 6), type := 37, pos := "laws.go:365", after := #[{ on := 17, ground := Go.Ground.guard }], guard := some (17, true) }) (v := ?_) rfl (by kernel_rfl) (by kernel_rfl) (by kernel_rfl) (fun _ _ _ h => h) (Or.inl ⟨by kernel_rfl, ?_⟩) (by assumption) ?_
            rotate_left
            · intro w hSw; (try dsimp only at hSw); go_simp; try with_reducible rfl
            simp only [Act.put, List.setIfInBounds_toArray, List.set_cons_zero, List.set_cons_succ]
            refine wpAnyH_ready (rs := [19]) (by kernel_rfl) (by simp) ?_
            refine AllReadyH.cons (o := { dst := some 63, op := Go.Op.call { callee := Go.Callee.value (Go.Operand.func 32), args := #[Go.Operand.tmp 62], argTypes := #[37] }, type := 37, pos := "laws.go:365", after := #[{ on := 18, ground := Go.Ground.data }, { on := 17, ground := Go.Ground.chain }, { on := 17, ground := Go.Ground.guard }], guard := some (17, true) }) rfl (fun K hK => ?_) ?_
            · go_simp
              go_wp2_with (go_at_call 32; refine (turned_any 0 R sx ax nx cx X w9 (HEX.out.below D9.out (Nat.le_of_lt HRX.out)) (Nat.le_trans (Nat.le_of_lt HRX.out) D9.out.size) HXN.out (by have := HX11.out; omega)).mono ?_; rintro e w10 ⟨a10, n10, c10, rfl, HN10, HE10, C10⟩)
              have D10 : Hid (Below WX.heap.size WX w10) := D9.out.trans (C10.out.mono D9.out.size)
              have hk_w10 := HKX.out _ D10.out
              refine hK.out _ _ hk_w10 (fun hHeld => ?_)
              clear hK K
              try simp only [Act.put, List.setIfInBounds_toArray, List.set_cons_zero, List.set_cons_succ]
              refine wpAnyH_ready (rs := [21]) (by kernel_rfl) (by simp) ?_
              refine AllReadyH.cons (o := { dst := some 65, op := Go.Op.call { callee := Go.Callee.value (Go.Operand.func 34), args := #[Go.Operand.tmp 64], argTypes := #[37] }, type := 37, pos := "laws.go:365", after := #[{ on := 20, ground := Go.Ground.data }, { on := 19, ground := Go.Ground.chain }, { on := 17, ground := Go.Ground.guard }], guard := some (17, true) }) rfl (fun K hK => ?_) ?_
              · go_simp
                go_wp2_with (go_at_call 34; refine (specTurned_any 0 R sx ax nx cx X w10 (HEX.out.below D10.out (Nat.le_of_lt HRX.out)) (Nat.le_trans (Nat.le_of_lt HRX.out) D10.out.size) HXN.out (by have := HX11.out; omega)).mono ?_; rintro e w11 ⟨a11, n11, c11, rfl, HN11, HE11, C11⟩)
                have D11 : Hid (Below WX.heap.size WX w11) := D10.out.trans (C11.out.mono D10.out.size)
                obtain rfl : n11 = n10 := HN11.out.symm.trans HN10.out
                have hk_w11 := HKX.out _ D11.out
                refine hK.out _ _ hk_w11 (fun hHeld => ?_)
                clear hK K
                try simp only [Act.put, List.setIfInBounds_toArray, List.set_cons_zero, List.set_cons_succ]
                refine wpAnyH_ready (rs := [22]) (by kernel_rfl) (by simp) ?_
                refine AllReadyH.cons (o := { dst := some 66, op := Go.Op.call { callee := Go.Callee.value (Go.Operand.func 29), args := #[Go.Operand.tmp 63, Go.Operand.tmp 65], argTypes := #[37, 37] }, type := 4, pos := "laws.go:365", after := #[{ on := 19, ground := Go.Ground.data }, { on := 21, ground := Go.Ground.data }, { on := 21, ground := Go.Ground.chain }, { on := 17, ground := Go.Ground.guard }], guard := some (17, true) }) rfl (fun K hK => ?_) ?_
                · go_simp
                  go_wp2_with (go_at_call 29; refine (sameGraph_any _ w10.heap.size _ w11.heap.size sx a10 a11 n11 c10 c11 (gturn sx X) w11 (HE10.out.toIn.below C11.out (Nat.le_refl _)) HE11.out.toIn C11.out.size (Nat.le_refl _) HN10.out (by have := gturn_len' HXN.out HN10.out; have := HX11.out; omega)).mono ?_; rintro e w12 ⟨rfl, C12⟩)
                  have D12 : Hid (Below WX.heap.size WX w12) := D11.out.trans (C12.out.mono D11.out.size)
                  have hk_w12 := HKX.out _ D12.out
                  refine hK.out _ _ hk_w12 (fun hHeld => ?_)
                  clear hK K
                  try simp only [Act.put, List.setIfInBounds_toArray, List.set_cons_zero, List.set_cons_succ]
                  refine wpAnyH_take (i := 23) (oi := { dst := some 67, op := Go.Op.pick (Go.Operand.tmp 61) (Go.Operand.tmp 66) (Go.Operand.const (Go.Value.bool false)), type := 4, pos := "laws.go:365", after := #[{ on := 17, ground := Go.Ground.data }, { on := 22, ground := Go.Ground.data }], guard := none }) (v := ?_) rfl (by kernel_rfl) (by kernel_rfl) (by kernel_rfl) (fun _ _ _ h => h) (Or.inl ⟨by kernel_rfl, ?_⟩) (by assumption) ?_
                  rotate_left
                  · intro w hSw; (try dsimp only at hSw); go_simp; try with_reducible rfl
                  simp only [Act.put, List.setIfInBounds_toArray, List.set_cons_zero, List.set_cons_succ]
                  refine wpAnyH_take (i := 24) (oi := { dst := some 2, op := Go.Op.assign (Go.Operand.tmp 67), type := 4, pos := "laws.go:365", after := #[{ on := 23, ground := Go.Ground.data }, { on := 22, ground := Go.Ground.chain }, { on := 0, ground := Go.Ground.phase }, { on := 1, ground := Go.Ground.phase }, { on := 2, ground := Go.Ground.phase }, { on := 3, ground := Go.Ground.phase }, { on := 4, ground := Go.Ground.phase }, { on := 5, ground := Go.Ground.phase }, { on := 6, ground := Go.Ground.phase }, { on := 7, ground := Go.Ground.phase }, { on := 8, ground := Go.Ground.phase }, { on := 9, ground := Go.Ground.phase }, { on := 10, ground := Go.Ground.phase }, { on := 11, ground := Go.Ground.phase }, { on := 12, ground := Go.Ground.phase }, { on := 13, ground := Go.Ground.phase }, { on := 14, ground := Go.Ground.phase }, { on := 15, ground := Go.Ground.phase }, { on := 16, ground := Go.Ground.phase }, { on := 17, ground := Go.Ground.phase }, { on := 18, ground := Go.Ground.phase }, { on := 19, ground := Go.Ground.phase }, { on := 20, ground := Go.Ground.phase }, { on := 21, ground := Go.Ground.phase }, { on := 22, ground := Go.Ground.phase }, { on := 23, ground := Go.Ground.phase }], guard := none }) (v := ?_) rfl (by kernel_rfl) (by kernel_rfl) (by kernel_rfl) (fun _ _ _ h => h) (Or.inl ⟨by kernel_rfl, ?_⟩) (by assumption) ?_
                  rotate_left
                  · intro w hSw; (try dsimp only at hSw); go_simp; try with_reducible rfl
                  simp only [Act.put, List.setIfInBounds_toArray, List.set_cons_zero, List.set_cons_succ]
                  refine wpAnyH_done (by kernel_rfl) ?_ _
                  clear hHeld
                  go_wp2
                  go_ret
                  exact ⟨rfl, HTX.out.hold.bel.trans (D12.out.mono HTX.out.hold.bel.size)⟩
                exact AllReadyH.nil
              exact AllReadyH.nil
            exact AllReadyH.nil
          exact AllReadyH.nil
        exact AllReadyH.nil
      exact AllReadyH.nil
end Go.Proofs.Ytelikebpddhncaa
