/-
  The walk of FnExactGraphAdd.
-/
import Derived.Test.YtfeimdlkpiacoaaGAddI
import Derived.Test.YtfeimdlkpiacoaaGAddS
import Derived.Test.YtfeimdlkpiacoaaHld
import Derived.Test.YtfeimdlkpiacoaaEdH
import Derived.Deep.DeepCutAuto
namespace Go.Proofs.Ytfeimdlkpiacoaa
open Go.RowKit

theorem gadd_len {s : Int} {l : List Ed} {e : Ed} {n m : Nat} (h : l.length = n) (hn : n ≤ 1048576) (hm : (gaddL s l e).length = m) : m ≤ 1048576 := by
  unfold gaddL at hm
  split at hm
  · rename_i ho
    unfold gaddOk at ho
    simp only [Bool.and_eq_true] at ho
    have := (okG_size ho.2).2.2
    omega
  · omega
/-- what a drawn region that calls and makes a box leaves: the box at P, a graph of its own -/
structure GBox (W wc : World) (P : Nat) (s : Int) (a : Option Addr) (n cap lo hi : Nat) (L : List Ed) : Prop where
  bel : Below W.heap.size W wc
  box : Blk wc P 2 (fun i => if i = 0 then .int .i64 s else .slice a n cap)
  own : EdgesOwn lo hi wc a L
  low : W.heap.size ≤ lo ∧ W.heap.size ≤ P
  off : P < lo ∨ hi ≤ P
  size : hi ≤ wc.heap.size ∧ P < wc.heap.size
theorem GBox.fresh {W w1 : World} {s : Int} {a : Option Addr} {n cap lo : Nat} {L : List Ed} (hb : Below W.heap.size W w1) (ho : EdgesOwn lo w1.heap.size w1 a L) (hl : W.heap.size ≤ lo) (T : TypeId) :
    GBox W (w1.alloc (.cells #[.int .i64 s, .slice a n cap] T)) w1.heap.size s a n cap lo w1.heap.size L :=
  ⟨hb.alloc hb.size _, blk_two w1 _ rfl _ _ _, ho.below (below1 w1 _) (Nat.le_refl _), ⟨hl, hb.size⟩, .inr (Nat.le_refl _), by simp, by simp⟩
theorem GBox.stored {W w1 : World} {P : Nat} {s : Int} {a : Option Addr} {n cap lo : Nat} {u v : Value} {L : List Ed} (hb : Below W.heap.size W w1) (hp : Blk w1 P 2 (fun i => if i = 0 then u else v)) (ho : EdgesOwn lo w1.heap.size w1 a L) (hl : W.heap.size ≤ P) (hP : P < lo) :
    GBox W ((w1.setCell ⟨P, 0, none⟩ (.int .i64 s)).setCell ⟨P, 1, none⟩ (.slice a n cap)) P s a n cap lo w1.heap.size L :=
  ⟨(hb.setCell hl _).setCell hl _, ((hp.set 0 (by omega) _).set 1 (by omega) _).congr (fun i hi => by rcases (show i = 0 ∨ i = 1 by omega) with rfl | rfl <;> simp), (ho.setCell hP _).setCell hP _, ⟨by omega, hl⟩, .inl hP, by simp, by simpa using hp.lt⟩
theorem Hold.also {w W wc : World} {bx : List (Nat × List Value)} (h : Hold w W bx) (hb : Below W.heap.size W wc) {P : Nat} {x y : Value} (hp : Blk wc P 2 (fun i => if i = 0 then x else y)) : Hold w wc ((P, [x, y]) :: bx) :=
  ⟨(h.below hb).bel, fun p hm => by
    rcases List.mem_cons.1 hm with rfl | hm
    · exact hp.congr (fun i hi => by rcases (show i = 0 ∨ i = 1 by have : i < 2 := hi; omega) with rfl | rfl <;> rfl)
    · exact (h.below hb).box p hm⟩

set_option maxHeartbeats 8000000 in
set_option maxRecDepth 100000 in
theorem law_4 (s0 : Int) (a0 : Option Addr) (n0 cap0 : Nat) (l0 : List Ed) (x1 : Ed) (w : World) (hm0 : n0 ≤ maxLen) (hl0 : l0.length = n0) (hr0 : EdgesIn 0 w.heap.size w a0 l0) :
    Calls Try.prog 4 #[gv s0 a0 n0 cap0, ev x1] w fun e w' => e = .returned (.bool true) ∧ Below w.heap.size w w' := by
  have HR0 : Hid (EdgesIn 0 w.heap.size w a0 l0) := hr0
  have HL0 : Hid (l0.length = n0) := hl0
  have HMX : Hid (n0 ≤ 9223372036854775807) := by unfold maxLen at hm0; show _ ≤ _; omega
  clear hr0 hl0 hm0
  obtain ⟨LL, HLL⟩ : ∃ LL, Hid (LL = gaddL s0 l0 x1) := ⟨_, rfl⟩
  obtain ⟨OK, HOK⟩ : ∃ OK, Hid (OK = gaddOk s0 l0 x1) := ⟨_, rfl⟩
  obtain ⟨x10, x11, x12⟩ := x1
  go_enter Try.func4, Try.ntmps4
  go_wp2_with fail
  refine (szGraph_any a0 n0 cap0 1048576 s0 _ HMX.out (by omega)).mono ?_
  rintro e w1 ⟨x, rfl, HX, hb1⟩
  have HD_1 : Hid (Hold w w1 [(w.heap.size + 1, [.int .i64 x10, .int .u8 x11, .int .i64 x12]), (w.heap.size, [.int .i64 s0, .slice a0 n0 cap0])]) := by show Hold _ _ _; have h := (((Hold.none w).more [.int .i64 s0, .slice a0 n0 cap0] 24).more [.int .i64 x10, .int .u8 x11, .int .i64 x12] 34).below hb1.out; simpa using h
  clear hb1
  by_cases hx : x < 0
  · go_wp2
    go_ret
    exact ⟨rfl, HD_1.out.bel⟩
  have HM : Hid (n0 ≤ 1048576) := by
    rcases HX.out with h | h
    · omega
    · exact h
  clear HX
  have ZZ2 : Hid (w.heap.size + 1 < w1.heap.size) := HD_1.out.lt (vs := [.int .i64 x10, .int .u8 x11, .int .i64 x12]) (by simp)
  have HADDI : Hid (∀ (lo hi : Nat) (a : Option Addr) (w : World), EdgesIn lo hi w a l0 → hi ≤ w.heap.size → Calls Try.prog 16 #[gv s0 a n0 n0, ev (x10, x11, x12)] w fun e w' => ∃ (a' : Option Addr) (n' cap' : Nat), e = .returned (.tuple #[gv s0 a' n' cap', .bool OK]) ∧ Hid (LL.length = n') ∧ Hid (EdgesOwn w.heap.size w'.heap.size w' a' LL) ∧ Hid (Below w.heap.size w w')) := fun lo hi a w h1 h2 =>
    (graphAdd_any lo hi s0 a n0 n0 l0 (x10, x11, x12) w h1 h2 HL0.out HM.out).mono fun _ _ ⟨a', n', cap', ok, g1, g2, g3, g4, g5⟩ => ⟨a', n', cap', by rw [g1, g2.out, HOK.out], by rw [HLL.out]; exact g3, by rw [HLL.out]; exact g4, g5⟩
  have HADDS : Hid (∀ (lo hi : Nat) (a : Option Addr) (w : World), EdgesIn lo hi w a l0 → hi ≤ w.heap.size → Calls Try.prog 14 #[gv s0 a n0 n0, ev (x10, x11, x12)] w fun e w' => ∃ (a' : Option Addr) (n' cap' : Nat), e = .returned (.tuple #[gv s0 a' n' cap', .bool OK]) ∧ Hid (LL.length = n') ∧ Hid (EdgesOwn w.heap.size w'.heap.size w' a' LL) ∧ Hid (Below w.heap.size w w')) := fun lo hi a w h1 h2 =>
    (specGAdd_any lo hi s0 a n0 n0 l0 (x10, x11, x12) w h1 h2 HL0.out HM.out).mono fun _ _ ⟨a', n', cap', ok, g1, g2, g3, g4, g5⟩ => ⟨a', n', cap', by rw [g1, g2.out, HOK.out], by rw [HLL.out]; exact g3, by rw [HLL.out]; exact g4, g5⟩
  have HN0 : Hid (LL.length ≤ 1048576) := by rw [HLL.out]; exact gadd_len HL0.out HM.out rfl
  clear HOK HLL
  have HKS : Hid (∀ w', Below w1.heap.size w1 w' → (w'.cell? ⟨w.heap.size, 0, none⟩ = some (.int .i64 s0) ∧ w'.cell? ⟨w.heap.size, 1, none⟩ = some (.slice a0 n0 cap0) ∧ w'.cell? ⟨w.heap.size + 1, 0, none⟩ = some (.int .i64 x10) ∧ w'.cell? ⟨w.heap.size + 1, 1, none⟩ = some (.int .u8 x11) ∧ w'.cell? ⟨w.heap.size + 1, 2, none⟩ = some (.int .i64 x12))) := fun w' h => ⟨(HD_1.out.below h).cell (b := w.heap.size) (vs := [.int .i64 s0, .slice a0 n0 cap0]) (i := 0) (by simp) (by simp), (HD_1.out.below h).cell (b := w.heap.size) (vs := [.int .i64 s0, .slice a0 n0 cap0]) (i := 1) (by simp) (by simp), (HD_1.out.below h).cell (b := w.heap.size + 1) (vs := [.int .i64 x10, .int .u8 x11, .int .i64 x12]) (i := 0) (by simp) (by simp), (HD_1.out.below h).cell (b := w.heap.size + 1) (vs := [.int .i64 x10, .int .u8 x11, .int .i64 x12]) (i := 1) (by simp) (by simp), (HD_1.out.below h).cell (b := w.heap.size + 1) (vs := [.int .i64 x10, .int .u8 x11, .int .i64 x12]) (i := 2) (by simp) (by simp)⟩
  have HTG : Hid (∀ w0, Below w1.heap.size w1 w0 → Calls Try.prog 11 #[gv s0 a0 n0 cap0] w0 fun e w' => ∃ g : Nat, e = .returned (gv s0 (some ⟨g, 0, none⟩) n0 n0) ∧ Hid (EdgesIn w1.heap.size w'.heap.size w' (some ⟨g, 0, none⟩) l0) ∧ Hid (Below w0.heap.size w0 w')) := fun w0 h =>
    (toGraph_any 0 w.heap.size s0 a0 n0 cap0 l0 w0 (HR0.out.below (HD_1.out.below h).bel (Nat.le_refl _)) (HD_1.out.below h).bel.size HL0.out HM.out).mono fun _ w' ⟨g, h1, h2, h4⟩ => ⟨g, h1, h2.out.toIn.wide h.size (Nat.le_refl _), h4⟩
  have q_3 : w1.cell? ⟨w.heap.size, 0, none⟩ = some (.int .i64 s0) := HD_1.out.cell (b := w.heap.size) (vs := [.int .i64 s0, .slice a0 n0 cap0]) (i := 0) (by simp) (by simp)
  have q_4 : w1.cell? ⟨w.heap.size, 1, none⟩ = some (.slice a0 n0 cap0) := HD_1.out.cell (b := w.heap.size) (vs := [.int .i64 s0, .slice a0 n0 cap0]) (i := 1) (by simp) (by simp)
  have q_5 : w1.cell? ⟨w.heap.size + 1, 0, none⟩ = some (.int .i64 x10) := HD_1.out.cell (b := w.heap.size + 1) (vs := [.int .i64 x10, .int .u8 x11, .int .i64 x12]) (i := 0) (by simp) (by simp)
  have q_6 : w1.cell? ⟨w.heap.size + 1, 1, none⟩ = some (.int .u8 x11) := HD_1.out.cell (b := w.heap.size + 1) (vs := [.int .i64 x10, .int .u8 x11, .int .i64 x12]) (i := 1) (by simp) (by simp)
  have q_7 : w1.cell? ⟨w.heap.size + 1, 2, none⟩ = some (.int .i64 x12) := HD_1.out.cell (b := w.heap.size + 1) (vs := [.int .i64 x10, .int .u8 x11, .int .i64 x12]) (i := 2) (by simp) (by simp)
  go_upto_region 5 with fail
  go_cut [6, 7] (fun p ok wc => ∃ (P : Nat) (a : Option Addr) (n cap lo hi : Nat), p = .pointer (some ⟨P, 0, none⟩) ∧ ok = .bool OK ∧ Hid (LL.length = n) ∧ Hid (GBox w1 wc P s0 a n cap lo hi LL))
  case first =>
    refine wp_region_held_drew (S := fun w' => w'.cell? ⟨w.heap.size, 0, none⟩ = some (.int .i64 s0) ∧ w'.cell? ⟨w.heap.size, 1, none⟩ = some (.slice a0 n0 cap0) ∧ w'.cell? ⟨w.heap.size + 1, 0, none⟩ = some (.int .i64 x10) ∧ w'.cell? ⟨w.heap.size + 1, 1, none⟩ = some (.int .u8 x11) ∧ w'.cell? ⟨w.heap.size + 1, 2, none⟩ = some (.int .i64 x12)) (by kernel_rfl) ⟨q_3, q_4, q_5, q_6, q_7⟩ (fun hHeld => ?_)
    clear q_3 q_4 q_5 q_6 q_7
    refine wpAnyH_take (i := 0) (oi := { dst := some 22, op := Go.Op.load 24 (Go.Operand.tmp 2), type := 24, pos := "exact.go:4595", after := #[], guard := none }) (v := ?_) rfl (by kernel_rfl) (by kernel_rfl) (by kernel_rfl) (fun _ _ _ h => h) (Or.inl ⟨by kernel_rfl, ?_⟩) (by assumption) ?_
    rotate_left
    · intro w hSw; (try dsimp only at hSw); go_simp; try with_reducible rfl
    simp only [Act.put, List.setIfInBounds_toArray, List.set_cons_zero, List.set_cons_succ]
    refine wpAnyH_take (i := 2) (oi := { dst := some 24, op := Go.Op.load 34 (Go.Operand.tmp 3), type := 34, pos := "exact.go:4595", after := #[], guard := none }) (v := ?_) rfl (by kernel_rfl) (by kernel_rfl) (by kernel_rfl) (fun _ _ _ h => h) (Or.inl ⟨by kernel_rfl, ?_⟩) (by assumption) ?_
    rotate_left
    · intro w hSw; (try dsimp only at hSw); go_simp; try with_reducible rfl
    simp only [Act.put, List.setIfInBounds_toArray, List.set_cons_zero, List.set_cons_succ]
    refine wpAnyH_ready (rs := [1, 8]) (by kernel_rfl) (by simp) ?_
    refine AllReadyH.cons (o := { dst := some 23, op := Go.Op.call { callee := Go.Callee.value (Go.Operand.func 11), args := #[Go.Operand.tmp 22], argTypes := #[24] }, type := 29, pos := "exact.go:4595", after := #[{ on := 0, ground := Go.Ground.data }], guard := none }) rfl (fun K hK => ?_) ?_
    · go_simp
      go_wp2_with (go_at_call 11; refine (HTG.out _ ((Below.refl w1.heap.size w1).drew)).mono ?_; rintro e wq1 ⟨g9, rfl, HX1, C1⟩)
      have HB1 : Hid (Below w1.heap.size w1 wq1) := ((Below.refl w1.heap.size w1).drew).trans (C1.out.mono ((Below.refl w1.heap.size w1).drew).size)
      have hk1 := HKS.out _ HB1.out
      refine hK.out _ _ hk1 (fun hHeld => ?_)
      clear hK K
      try simp only [Act.put, List.setIfInBounds_toArray, List.set_cons_zero, List.set_cons_succ]
      refine wpAnyH_ready (rs := [3, 8]) (by kernel_rfl) (by simp) ?_
      refine AllReadyH.cons (o := { dst := some 25, op := Go.Op.call { callee := Go.Callee.value (Go.Operand.func 15), args := #[Go.Operand.tmp 24], argTypes := #[34] }, type := 37, pos := "exact.go:4595", after := #[{ on := 2, ground := Go.Ground.data }, { on := 1, ground := Go.Ground.chain }], guard := none }) rfl (fun K hK => ?_) ?_
      · go_simp
        go_wp2_with (go_at_call 15; refine (toEdge_any (x10, x11, x12) _).mono ?_; rintro e wq2 ⟨rfl, C2⟩)
        have HX2 : Hid (EdgesIn w1.heap.size wq1.heap.size wq2 (some ⟨g9, 0, none⟩) l0) := HX1.out.below C2.out (Nat.le_refl _)
        have HY2 : Hid (wq1.heap.size ≤ wq2.heap.size) := Nat.le_trans (Nat.le_refl _) C2.out.size
        have HB2 : Hid (Below w1.heap.size w1 wq2) := (HB1.out).trans (C2.out.mono (HB1.out).size)
        have hk2 := HKS.out _ HB2.out
        refine hK.out _ _ hk2 (fun hHeld => ?_)
        clear hK K
        try simp only [Act.put, List.setIfInBounds_toArray, List.set_cons_zero, List.set_cons_succ]
        refine wpAnyH_ready (rs := [4, 8]) (by kernel_rfl) (by simp) ?_
        refine AllReadyH.cons (o := { dst := some 26, op := Go.Op.call { callee := Go.Callee.value (Go.Operand.func 14), args := #[Go.Operand.tmp 23, Go.Operand.tmp 25], argTypes := #[29, 37] }, type := 35, pos := "exact.go:4595", after := #[{ on := 1, ground := Go.Ground.data }, { on := 3, ground := Go.Ground.data }, { on := 3, ground := Go.Ground.chain }], guard := none }) rfl (fun K hK => ?_) ?_
        · go_simp
          go_wp2_with (go_at_call 14; refine (HADDS.out _ _ _ _ HX2.out HY2.out).mono ?_; rintro e wq3 ⟨a9, n9, cap9, rfl, HN9, HO9, C3⟩)
          have HB3 : Hid (Below w1.heap.size w1 wq3) := (HB2.out).trans (C3.out.mono (HB2.out).size)
          have hk3 := HKS.out _ HB3.out
          refine hK.out _ _ hk3 (fun hHeld => ?_)
          clear hK K
          try simp only [Act.put, List.setIfInBounds_toArray, List.set_cons_zero, List.set_cons_succ]
          refine wpAnyH_take (i := 5) (oi := { dst := some 21, op := Go.Op.move (Go.Operand.tmp 26), type := 35, pos := "exact.go:4595", after := #[{ on := 4, ground := Go.Ground.data }], guard := none }) (v := ?_) rfl (by kernel_rfl) (by kernel_rfl) (by kernel_rfl) (fun _ _ _ h => h) (Or.inl ⟨by kernel_rfl, ?_⟩) (by assumption) ?_
          rotate_left
          · intro w hSw; (try dsimp only at hSw); go_simp; try with_reducible rfl
          simp only [Act.put, List.setIfInBounds_toArray, List.set_cons_zero, List.set_cons_succ]
          refine wpAnyH_take (i := 6) (oi := { dst := some 27, op := Go.Op.extract (Go.Operand.tmp 21) 0, type := 29, pos := "exact.go:4595", after := #[{ on := 5, ground := Go.Ground.data }], guard := none }) (v := ?_) rfl (by kernel_rfl) (by kernel_rfl) (by kernel_rfl) (fun _ _ _ h => h) (Or.inl ⟨by kernel_rfl, ?_⟩) (by assumption) ?_
          rotate_left
          · intro w hSw; (try dsimp only at hSw); go_simp; try with_reducible rfl
          simp only [Act.put, List.setIfInBounds_toArray, List.set_cons_zero, List.set_cons_succ]
          refine wpAnyH_take (i := 7) (oi := { dst := some 28, op := Go.Op.extract (Go.Operand.tmp 21) 1, type := 4, pos := "exact.go:4595", after := #[{ on := 5, ground := Go.Ground.data }, { on := 9, ground := Go.Ground.gcOnly Go.Departure.lateStores }], guard := none }) (v := ?_) rfl (by kernel_rfl) (by kernel_rfl) (by kernel_rfl) (fun _ _ _ h => h) (Or.inl ⟨by kernel_rfl, ?_⟩) (by assumption) ?_
          rotate_left
          · intro w hSw; (try dsimp only at hSw); go_simp; try with_reducible rfl
          simp only [Act.put, List.setIfInBounds_toArray, List.set_cons_zero, List.set_cons_succ]
          refine wpAnyH_ready (rs := [8]) (by kernel_rfl) (by simp) ?_
          refine AllReadyH.cons (o := { dst := some 6, op := Go.Op.alloc 29, type := 0, pos := "exact.go:4595", after := #[], guard := none }) rfl (fun K hK => ?_) ?_
          · go_simp
            have hk4 := HKS.out (wq3.alloc (.cells #[.int .i64 0, .slice none 0 0] 29)) ((HB3.out).alloc (HB3.out).size _)
            refine hK.out _ _ hk4 (fun hHeld => ?_)
            clear hK K
            try simp only [Act.put, List.setIfInBounds_toArray, List.set_cons_zero, List.set_cons_succ]
            refine wpAnyH_ready (rs := [9]) (by kernel_rfl) (by simp) ?_
            refine AllReadyH.cons (o := { dst := none, op := Go.Op.store 29 (Go.Operand.tmp 6) (Go.Operand.tmp 27), type := 0, pos := "exact.go:4595", after := #[{ on := 8, ground := Go.Ground.data }, { on := 6, ground := Go.Ground.data }, { on := 4, ground := Go.Ground.chain }, { on := 0, ground := Go.Ground.phase }, { on := 1, ground := Go.Ground.phase }, { on := 2, ground := Go.Ground.phase }, { on := 3, ground := Go.Ground.phase }, { on := 4, ground := Go.Ground.phase }, { on := 5, ground := Go.Ground.phase }, { on := 6, ground := Go.Ground.phase }, { on := 7, ground := Go.Ground.textOnly Go.Departure.lateStores }, { on := 8, ground := Go.Ground.phase }], guard := none }) rfl (fun K hK => ?_) ?_
            · go_simp
              have GB : Hid (GBox w1 (wq3.alloc (.cells #[.int .i64 s0, .slice a9 n9 cap9] 29)) wq3.heap.size s0 a9 n9 cap9 wq2.heap.size wq3.heap.size LL) := GBox.fresh (HB3.out) HO9.out ((HB2.out).size) 29
              have hk5 := HKS.out _ GB.out.bel
              refine hK.out _ _ hk5 (fun hHeld => ?_)
              clear hK K
              try simp only [Act.put, List.setIfInBounds_toArray, List.set_cons_zero, List.set_cons_succ]
              refine wpAnyH_take (i := 10) (oi := { dst := some 7, op := Go.Op.assign (Go.Operand.tmp 28), type := 4, pos := "exact.go:4595", after := #[{ on := 7, ground := Go.Ground.data }, { on := 9, ground := Go.Ground.chain }, { on := 0, ground := Go.Ground.phase }, { on := 1, ground := Go.Ground.phase }, { on := 2, ground := Go.Ground.phase }, { on := 3, ground := Go.Ground.phase }, { on := 4, ground := Go.Ground.phase }, { on := 5, ground := Go.Ground.phase }, { on := 6, ground := Go.Ground.phase }, { on := 7, ground := Go.Ground.phase }, { on := 8, ground := Go.Ground.phase }, { on := 9, ground := Go.Ground.phase }], guard := none }) (v := ?_) rfl (by kernel_rfl) (by kernel_rfl) (by kernel_rfl) (fun _ _ _ h => h) (Or.inl ⟨by kernel_rfl, ?_⟩) (by assumption) ?_
              rotate_left
              · intro w hSw; (try dsimp only at hSw); go_simp; try with_reducible rfl
              simp only [Act.put, List.setIfInBounds_toArray, List.set_cons_zero, List.set_cons_succ]
              refine wpAnyH_done (by kernel_rfl) ?_ _
              clear hHeld
              go_wp2_with fail
              go_meet
              case rel => exact ⟨_, a9, n9, cap9, _, _, rfl, rfl, HN9, GB⟩
            exact AllReadyH.nil
          exact AllReadyH.nil
        refine AllReadyH.cons (o := { dst := some 6, op := Go.Op.alloc 29, type := 0, pos := "exact.go:4595", after := #[], guard := none }) rfl (fun K hK => ?_) ?_
        · go_simp
          have HB3 : Hid (Below w1.heap.size w1 (wq2.alloc (.cells #[.int .i64 0, .slice none 0 0] 29))) := (HB2.out).alloc (HB2.out).size _
          have hk3 := HKS.out _ HB3.out
          have HP3 : Hid (Blk (wq2.alloc (.cells #[.int .i64 0, .slice none 0 0] 29)) wq2.heap.size 2 (fun i => if i = 0 then .int .i64 0 else .slice none 0 0)) := blk_two wq2 _ rfl _ _ _
          have HX3 : Hid (EdgesIn w1.heap.size wq1.heap.size (wq2.alloc (.cells #[.int .i64 0, .slice none 0 0] 29)) (some ⟨g9, 0, none⟩) l0) := HX2.out.below (below1 wq2 _) HY2.out
          have HY3 : Hid (wq1.heap.size ≤ (wq2.alloc (.cells #[.int .i64 0, .slice none 0 0] 29)).heap.size) := Nat.le_trans HY2.out (by simp)
          refine hK.out _ _ hk3 (fun hHeld => ?_)
          clear hK K
          try simp only [Act.put, List.setIfInBounds_toArray, List.set_cons_zero, List.set_cons_succ]
          refine wpAnyH_ready (rs := [4]) (by kernel_rfl) (by simp) ?_
          refine AllReadyH.cons (o := { dst := some 26, op := Go.Op.call { callee := Go.Callee.value (Go.Operand.func 14), args := #[Go.Operand.tmp 23, Go.Operand.tmp 25], argTypes := #[29, 37] }, type := 35, pos := "exact.go:4595", after := #[{ on := 1, ground := Go.Ground.data }, { on := 3, ground := Go.Ground.data }, { on := 3, ground := Go.Ground.chain }], guard := none }) rfl (fun K hK => ?_) ?_
          · go_simp
            go_wp2_with (go_at_call 14; refine (HADDS.out _ _ _ _ HX3.out HY3.out).mono ?_; rintro e wq4 ⟨a9, n9, cap9, rfl, HN9, HO9, C4⟩)
            have HB4 : Hid (Below w1.heap.size w1 wq4) := (HB3.out).trans (C4.out.mono (HB3.out).size)
            have hk4 := HKS.out _ HB4.out
            have HP4 : Hid (Blk wq4 wq2.heap.size 2 (fun i => if i = 0 then .int .i64 0 else .slice none 0 0)) := HP3.out.of_block (C4.out.block _ HP3.out.lt)
            refine hK.out _ _ hk4 (fun hHeld => ?_)
            clear hK K
            try simp only [Act.put, List.setIfInBounds_toArray, List.set_cons_zero, List.set_cons_succ]
            refine wpAnyH_take (i := 5) (oi := { dst := some 21, op := Go.Op.move (Go.Operand.tmp 26), type := 35, pos := "exact.go:4595", after := #[{ on := 4, ground := Go.Ground.data }], guard := none }) (v := ?_) rfl (by kernel_rfl) (by kernel_rfl) (by kernel_rfl) (fun _ _ _ h => h) (Or.inl ⟨by kernel_rfl, ?_⟩) (by assumption) ?_
            rotate_left
            · intro w hSw; (try dsimp only at hSw); go_simp; try with_reducible rfl
            simp only [Act.put, List.setIfInBounds_toArray, List.set_cons_zero, List.set_cons_succ]
            refine wpAnyH_take (i := 6) (oi := { dst := some 27, op := Go.Op.extract (Go.Operand.tmp 21) 0, type := 29, pos := "exact.go:4595", after := #[{ on := 5, ground := Go.Ground.data }], guard := none }) (v := ?_) rfl (by kernel_rfl) (by kernel_rfl) (by kernel_rfl) (fun _ _ _ h => h) (Or.inl ⟨by kernel_rfl, ?_⟩) (by assumption) ?_
            rotate_left
            · intro w hSw; (try dsimp only at hSw); go_simp; try with_reducible rfl
            simp only [Act.put, List.setIfInBounds_toArray, List.set_cons_zero, List.set_cons_succ]
            refine wpAnyH_take (i := 7) (oi := { dst := some 28, op := Go.Op.extract (Go.Operand.tmp 21) 1, type := 4, pos := "exact.go:4595", after := #[{ on := 5, ground := Go.Ground.data }, { on := 9, ground := Go.Ground.gcOnly Go.Departure.lateStores }], guard := none }) (v := ?_) rfl (by kernel_rfl) (by kernel_rfl) (by kernel_rfl) (fun _ _ _ h => h) (Or.inl ⟨by kernel_rfl, ?_⟩) (by assumption) ?_
            rotate_left
            · intro w hSw; (try dsimp only at hSw); go_simp; try with_reducible rfl
            simp only [Act.put, List.setIfInBounds_toArray, List.set_cons_zero, List.set_cons_succ]
            refine wpAnyH_ready (rs := [9]) (by kernel_rfl) (by simp) ?_
            refine AllReadyH.cons (o := { dst := none, op := Go.Op.store 29 (Go.Operand.tmp 6) (Go.Operand.tmp 27), type := 0, pos := "exact.go:4595", after := #[{ on := 8, ground := Go.Ground.data }, { on := 6, ground := Go.Ground.data }, { on := 4, ground := Go.Ground.chain }, { on := 0, ground := Go.Ground.phase }, { on := 1, ground := Go.Ground.phase }, { on := 2, ground := Go.Ground.phase }, { on := 3, ground := Go.Ground.phase }, { on := 4, ground := Go.Ground.phase }, { on := 5, ground := Go.Ground.phase }, { on := 6, ground := Go.Ground.phase }, { on := 7, ground := Go.Ground.textOnly Go.Departure.lateStores }, { on := 8, ground := Go.Ground.phase }], guard := none }) rfl (fun K hK => ?_) ?_
            · obtain ⟨z0, z1⟩ := blk_pair_cells HP4.out
              have zf0 := HP4.out.frozen 0
              have zf1 := HP4.out.frozen 1
              go_simp
              have GB : Hid (GBox w1 ((wq4.setCell ⟨wq2.heap.size, 0, none⟩ (.int .i64 s0)).setCell ⟨wq2.heap.size, 1, none⟩ (.slice a9 n9 cap9)) wq2.heap.size s0 a9 n9 cap9 (wq2.alloc (.cells #[.int .i64 0, .slice none 0 0] 29)).heap.size wq4.heap.size LL) := GBox.stored (HB4.out) HP4.out HO9.out ((HB2.out).size) HP3.out.lt
              have hk5 := HKS.out _ GB.out.bel
              refine hK.out _ _ hk5 (fun hHeld => ?_)
              clear hK K
              try simp only [Act.put, List.setIfInBounds_toArray, List.set_cons_zero, List.set_cons_succ]
              refine wpAnyH_take (i := 10) (oi := { dst := some 7, op := Go.Op.assign (Go.Operand.tmp 28), type := 4, pos := "exact.go:4595", after := #[{ on := 7, ground := Go.Ground.data }, { on := 9, ground := Go.Ground.chain }, { on := 0, ground := Go.Ground.phase }, { on := 1, ground := Go.Ground.phase }, { on := 2, ground := Go.Ground.phase }, { on := 3, ground := Go.Ground.phase }, { on := 4, ground := Go.Ground.phase }, { on := 5, ground := Go.Ground.phase }, { on := 6, ground := Go.Ground.phase }, { on := 7, ground := Go.Ground.phase }, { on := 8, ground := Go.Ground.phase }, { on := 9, ground := Go.Ground.phase }], guard := none }) (v := ?_) rfl (by kernel_rfl) (by kernel_rfl) (by kernel_rfl) (fun _ _ _ h => h) (Or.inl ⟨by kernel_rfl, ?_⟩) (by assumption) ?_
              rotate_left
              · intro w hSw; (try dsimp only at hSw); go_simp; try with_reducible rfl
              simp only [Act.put, List.setIfInBounds_toArray, List.set_cons_zero, List.set_cons_succ]
              refine wpAnyH_done (by kernel_rfl) ?_ _
              clear hHeld
              go_wp2_with fail
              go_meet
              case rel => exact ⟨_, a9, n9, cap9, _, _, rfl, rfl, HN9, GB⟩
            exact AllReadyH.nil
          exact AllReadyH.nil
        exact AllReadyH.nil
      refine AllReadyH.cons (o := { dst := some 6, op := Go.Op.alloc 29, type := 0, pos := "exact.go:4595", after := #[], guard := none }) rfl (fun K hK => ?_) ?_
      · go_simp
        have HB2 : Hid (Below w1.heap.size w1 (wq1.alloc (.cells #[.int .i64 0, .slice none 0 0] 29))) := (HB1.out).alloc (HB1.out).size _
        have hk2 := HKS.out _ HB2.out
        have HP2 : Hid (Blk (wq1.alloc (.cells #[.int .i64 0, .slice none 0 0] 29)) wq1.heap.size 2 (fun i => if i = 0 then .int .i64 0 else .slice none 0 0)) := blk_two wq1 _ rfl _ _ _
        have HX2 : Hid (EdgesIn w1.heap.size wq1.heap.size (wq1.alloc (.cells #[.int .i64 0, .slice none 0 0] 29)) (some ⟨g9, 0, none⟩) l0) := HX1.out.below (below1 wq1 _) (Nat.le_refl _)
        have HY2 : Hid (wq1.heap.size ≤ (wq1.alloc (.cells #[.int .i64 0, .slice none 0 0] 29)).heap.size) := Nat.le_trans (Nat.le_refl _) (by simp)
        refine hK.out _ _ hk2 (fun hHeld => ?_)
        clear hK K
        try simp only [Act.put, List.setIfInBounds_toArray, List.set_cons_zero, List.set_cons_succ]
        refine wpAnyH_ready (rs := [3]) (by kernel_rfl) (by simp) ?_
        refine AllReadyH.cons (o := { dst := some 25, op := Go.Op.call { callee := Go.Callee.value (Go.Operand.func 15), args := #[Go.Operand.tmp 24], argTypes := #[34] }, type := 37, pos := "exact.go:4595", after := #[{ on := 2, ground := Go.Ground.data }, { on := 1, ground := Go.Ground.chain }], guard := none }) rfl (fun K hK => ?_) ?_
        · go_simp
          go_wp2_with (go_at_call 15; refine (toEdge_any (x10, x11, x12) _).mono ?_; rintro e wq3 ⟨rfl, C3⟩)
          have HX3 : Hid (EdgesIn w1.heap.size wq1.heap.size wq3 (some ⟨g9, 0, none⟩) l0) := HX2.out.below C3.out HY2.out
          have HY3 : Hid (wq1.heap.size ≤ wq3.heap.size) := Nat.le_trans HY2.out C3.out.size
          have HB3 : Hid (Below w1.heap.size w1 wq3) := (HB2.out).trans (C3.out.mono (HB2.out).size)
          have hk3 := HKS.out _ HB3.out
          have HP3 : Hid (Blk wq3 wq1.heap.size 2 (fun i => if i = 0 then .int .i64 0 else .slice none 0 0)) := HP2.out.of_block (C3.out.block _ HP2.out.lt)
          refine hK.out _ _ hk3 (fun hHeld => ?_)
          clear hK K
          try simp only [Act.put, List.setIfInBounds_toArray, List.set_cons_zero, List.set_cons_succ]
          refine wpAnyH_ready (rs := [4]) (by kernel_rfl) (by simp) ?_
          refine AllReadyH.cons (o := { dst := some 26, op := Go.Op.call { callee := Go.Callee.value (Go.Operand.func 14), args := #[Go.Operand.tmp 23, Go.Operand.tmp 25], argTypes := #[29, 37] }, type := 35, pos := "exact.go:4595", after := #[{ on := 1, ground := Go.Ground.data }, { on := 3, ground := Go.Ground.data }, { on := 3, ground := Go.Ground.chain }], guard := none }) rfl (fun K hK => ?_) ?_
          · go_simp
            go_wp2_with (go_at_call 14; refine (HADDS.out _ _ _ _ HX3.out HY3.out).mono ?_; rintro e wq4 ⟨a9, n9, cap9, rfl, HN9, HO9, C4⟩)
            have HB4 : Hid (Below w1.heap.size w1 wq4) := (HB3.out).trans (C4.out.mono (HB3.out).size)
            have hk4 := HKS.out _ HB4.out
            have HP4 : Hid (Blk wq4 wq1.heap.size 2 (fun i => if i = 0 then .int .i64 0 else .slice none 0 0)) := HP3.out.of_block (C4.out.block _ HP3.out.lt)
            refine hK.out _ _ hk4 (fun hHeld => ?_)
            clear hK K
            try simp only [Act.put, List.setIfInBounds_toArray, List.set_cons_zero, List.set_cons_succ]
            refine wpAnyH_take (i := 5) (oi := { dst := some 21, op := Go.Op.move (Go.Operand.tmp 26), type := 35, pos := "exact.go:4595", after := #[{ on := 4, ground := Go.Ground.data }], guard := none }) (v := ?_) rfl (by kernel_rfl) (by kernel_rfl) (by kernel_rfl) (fun _ _ _ h => h) (Or.inl ⟨by kernel_rfl, ?_⟩) (by assumption) ?_
            rotate_left
            · intro w hSw; (try dsimp only at hSw); go_simp; try with_reducible rfl
            simp only [Act.put, List.setIfInBounds_toArray, List.set_cons_zero, List.set_cons_succ]
            refine wpAnyH_take (i := 6) (oi := { dst := some 27, op := Go.Op.extract (Go.Operand.tmp 21) 0, type := 29, pos := "exact.go:4595", after := #[{ on := 5, ground := Go.Ground.data }], guard := none }) (v := ?_) rfl (by kernel_rfl) (by kernel_rfl) (by kernel_rfl) (fun _ _ _ h => h) (Or.inl ⟨by kernel_rfl, ?_⟩) (by assumption) ?_
            rotate_left
            · intro w hSw; (try dsimp only at hSw); go_simp; try with_reducible rfl
            simp only [Act.put, List.setIfInBounds_toArray, List.set_cons_zero, List.set_cons_succ]
            refine wpAnyH_take (i := 7) (oi := { dst := some 28, op := Go.Op.extract (Go.Operand.tmp 21) 1, type := 4, pos := "exact.go:4595", after := #[{ on := 5, ground := Go.Ground.data }, { on := 9, ground := Go.Ground.gcOnly Go.Departure.lateStores }], guard := none }) (v := ?_) rfl (by kernel_rfl) (by kernel_rfl) (by kernel_rfl) (fun _ _ _ h => h) (Or.inl ⟨by kernel_rfl, ?_⟩) (by assumption) ?_
            rotate_left
            · intro w hSw; (try dsimp only at hSw); go_simp; try with_reducible rfl
            simp only [Act.put, List.setIfInBounds_toArray, List.set_cons_zero, List.set_cons_succ]
            refine wpAnyH_ready (rs := [9]) (by kernel_rfl) (by simp) ?_
            refine AllReadyH.cons (o := { dst := none, op := Go.Op.store 29 (Go.Operand.tmp 6) (Go.Operand.tmp 27), type := 0, pos := "exact.go:4595", after := #[{ on := 8, ground := Go.Ground.data }, { on := 6, ground := Go.Ground.data }, { on := 4, ground := Go.Ground.chain }, { on := 0, ground := Go.Ground.phase }, { on := 1, ground := Go.Ground.phase }, { on := 2, ground := Go.Ground.phase }, { on := 3, ground := Go.Ground.phase }, { on := 4, ground := Go.Ground.phase }, { on := 5, ground := Go.Ground.phase }, { on := 6, ground := Go.Ground.phase }, { on := 7, ground := Go.Ground.textOnly Go.Departure.lateStores }, { on := 8, ground := Go.Ground.phase }], guard := none }) rfl (fun K hK => ?_) ?_
            · obtain ⟨z0, z1⟩ := blk_pair_cells HP4.out
              have zf0 := HP4.out.frozen 0
              have zf1 := HP4.out.frozen 1
              go_simp
              have GB : Hid (GBox w1 ((wq4.setCell ⟨wq1.heap.size, 0, none⟩ (.int .i64 s0)).setCell ⟨wq1.heap.size, 1, none⟩ (.slice a9 n9 cap9)) wq1.heap.size s0 a9 n9 cap9 wq3.heap.size wq4.heap.size LL) := GBox.stored (HB4.out) HP4.out HO9.out ((HB1.out).size) HP3.out.lt
              have hk5 := HKS.out _ GB.out.bel
              refine hK.out _ _ hk5 (fun hHeld => ?_)
              clear hK K
              try simp only [Act.put, List.setIfInBounds_toArray, List.set_cons_zero, List.set_cons_succ]
              refine wpAnyH_take (i := 10) (oi := { dst := some 7, op := Go.Op.assign (Go.Operand.tmp 28), type := 4, pos := "exact.go:4595", after := #[{ on := 7, ground := Go.Ground.data }, { on := 9, ground := Go.Ground.chain }, { on := 0, ground := Go.Ground.phase }, { on := 1, ground := Go.Ground.phase }, { on := 2, ground := Go.Ground.phase }, { on := 3, ground := Go.Ground.phase }, { on := 4, ground := Go.Ground.phase }, { on := 5, ground := Go.Ground.phase }, { on := 6, ground := Go.Ground.phase }, { on := 7, ground := Go.Ground.phase }, { on := 8, ground := Go.Ground.phase }, { on := 9, ground := Go.Ground.phase }], guard := none }) (v := ?_) rfl (by kernel_rfl) (by kernel_rfl) (by kernel_rfl) (fun _ _ _ h => h) (Or.inl ⟨by kernel_rfl, ?_⟩) (by assumption) ?_
              rotate_left
              · intro w hSw; (try dsimp only at hSw); go_simp; try with_reducible rfl
              simp only [Act.put, List.setIfInBounds_toArray, List.set_cons_zero, List.set_cons_succ]
              refine wpAnyH_done (by kernel_rfl) ?_ _
              clear hHeld
              go_wp2_with fail
              go_meet
              case rel => exact ⟨_, a9, n9, cap9, _, _, rfl, rfl, HN9, GB⟩
            exact AllReadyH.nil
          exact AllReadyH.nil
        exact AllReadyH.nil
      exact AllReadyH.nil
    refine AllReadyH.cons (o := { dst := some 6, op := Go.Op.alloc 29, type := 0, pos := "exact.go:4595", after := #[], guard := none }) rfl (fun K hK => ?_) ?_
    · go_simp
      have HB1 : Hid (Below w1.heap.size w1 (w1.alloc (.cells #[.int .i64 0, .slice none 0 0] 29)).drew) := ((Below.refl w1.heap.size w1).drew).alloc ((Below.refl w1.heap.size w1).drew).size _
      have hk1 := HKS.out _ HB1.out
      have HP1 : Hid (Blk (w1.alloc (.cells #[.int .i64 0, .slice none 0 0] 29)).drew w1.heap.size 2 (fun i => if i = 0 then .int .i64 0 else .slice none 0 0)) := blk_two w1 _ rfl _ _ _
      refine hK.out _ _ hk1 (fun hHeld => ?_)
      clear hK K
      try simp only [Act.put, List.setIfInBounds_toArray, List.set_cons_zero, List.set_cons_succ]
      refine wpAnyH_ready (rs := [1]) (by kernel_rfl) (by simp) ?_
      refine AllReadyH.cons (o := { dst := some 23, op := Go.Op.call { callee := Go.Callee.value (Go.Operand.func 11), args := #[Go.Operand.tmp 22], argTypes := #[24] }, type := 29, pos := "exact.go:4595", after := #[{ on := 0, ground := Go.Ground.data }], guard := none }) rfl (fun K hK => ?_) ?_
      · go_simp
        go_wp2_with (go_at_call 11; refine (HTG.out _ (HB1.out)).mono ?_; rintro e wq2 ⟨g9, rfl, HX2, C2⟩)
        have HB2 : Hid (Below w1.heap.size w1 wq2) := (HB1.out).trans (C2.out.mono (HB1.out).size)
        have hk2 := HKS.out _ HB2.out
        have HP2 : Hid (Blk wq2 w1.heap.size 2 (fun i => if i = 0 then .int .i64 0 else .slice none 0 0)) := HP1.out.of_block (C2.out.block _ HP1.out.lt)
        refine hK.out _ _ hk2 (fun hHeld => ?_)
        clear hK K
        try simp only [Act.put, List.setIfInBounds_toArray, List.set_cons_zero, List.set_cons_succ]
        refine wpAnyH_ready (rs := [3]) (by kernel_rfl) (by simp) ?_
        refine AllReadyH.cons (o := { dst := some 25, op := Go.Op.call { callee := Go.Callee.value (Go.Operand.func 15), args := #[Go.Operand.tmp 24], argTypes := #[34] }, type := 37, pos := "exact.go:4595", after := #[{ on := 2, ground := Go.Ground.data }, { on := 1, ground := Go.Ground.chain }], guard := none }) rfl (fun K hK => ?_) ?_
        · go_simp
          go_wp2_with (go_at_call 15; refine (toEdge_any (x10, x11, x12) _).mono ?_; rintro e wq3 ⟨rfl, C3⟩)
          have HX3 : Hid (EdgesIn w1.heap.size wq2.heap.size wq3 (some ⟨g9, 0, none⟩) l0) := HX2.out.below C3.out (Nat.le_refl _)
          have HY3 : Hid (wq2.heap.size ≤ wq3.heap.size) := Nat.le_trans (Nat.le_refl _) C3.out.size
          have HB3 : Hid (Below w1.heap.size w1 wq3) := (HB2.out).trans (C3.out.mono (HB2.out).size)
          have hk3 := HKS.out _ HB3.out
          have HP3 : Hid (Blk wq3 w1.heap.size 2 (fun i => if i = 0 then .int .i64 0 else .slice none 0 0)) := HP2.out.of_block (C3.out.block _ HP2.out.lt)
          refine hK.out _ _ hk3 (fun hHeld => ?_)
          clear hK K
          try simp only [Act.put, List.setIfInBounds_toArray, List.set_cons_zero, List.set_cons_succ]
          refine wpAnyH_ready (rs := [4]) (by kernel_rfl) (by simp) ?_
          refine AllReadyH.cons (o := { dst := some 26, op := Go.Op.call { callee := Go.Callee.value (Go.Operand.func 14), args := #[Go.Operand.tmp 23, Go.Operand.tmp 25], argTypes := #[29, 37] }, type := 35, pos := "exact.go:4595", after := #[{ on := 1, ground := Go.Ground.data }, { on := 3, ground := Go.Ground.data }, { on := 3, ground := Go.Ground.chain }], guard := none }) rfl (fun K hK => ?_) ?_
          · go_simp
            go_wp2_with (go_at_call 14; refine (HADDS.out _ _ _ _ HX3.out HY3.out).mono ?_; rintro e wq4 ⟨a9, n9, cap9, rfl, HN9, HO9, C4⟩)
            have HB4 : Hid (Below w1.heap.size w1 wq4) := (HB3.out).trans (C4.out.mono (HB3.out).size)
            have hk4 := HKS.out _ HB4.out
            have HP4 : Hid (Blk wq4 w1.heap.size 2 (fun i => if i = 0 then .int .i64 0 else .slice none 0 0)) := HP3.out.of_block (C4.out.block _ HP3.out.lt)
            refine hK.out _ _ hk4 (fun hHeld => ?_)
            clear hK K
            try simp only [Act.put, List.setIfInBounds_toArray, List.set_cons_zero, List.set_cons_succ]
            refine wpAnyH_take (i := 5) (oi := { dst := some 21, op := Go.Op.move (Go.Operand.tmp 26), type := 35, pos := "exact.go:4595", after := #[{ on := 4, ground := Go.Ground.data }], guard := none }) (v := ?_) rfl (by kernel_rfl) (by kernel_rfl) (by kernel_rfl) (fun _ _ _ h => h) (Or.inl ⟨by kernel_rfl, ?_⟩) (by assumption) ?_
            rotate_left
            · intro w hSw; (try dsimp only at hSw); go_simp; try with_reducible rfl
            simp only [Act.put, List.setIfInBounds_toArray, List.set_cons_zero, List.set_cons_succ]
            refine wpAnyH_take (i := 6) (oi := { dst := some 27, op := Go.Op.extract (Go.Operand.tmp 21) 0, type := 29, pos := "exact.go:4595", after := #[{ on := 5, ground := Go.Ground.data }], guard := none }) (v := ?_) rfl (by kernel_rfl) (by kernel_rfl) (by kernel_rfl) (fun _ _ _ h => h) (Or.inl ⟨by kernel_rfl, ?_⟩) (by assumption) ?_
            rotate_left
            · intro w hSw; (try dsimp only at hSw); go_simp; try with_reducible rfl
            simp only [Act.put, List.setIfInBounds_toArray, List.set_cons_zero, List.set_cons_succ]
            refine wpAnyH_take (i := 7) (oi := { dst := some 28, op := Go.Op.extract (Go.Operand.tmp 21) 1, type := 4, pos := "exact.go:4595", after := #[{ on := 5, ground := Go.Ground.data }, { on := 9, ground := Go.Ground.gcOnly Go.Departure.lateStores }], guard := none }) (v := ?_) rfl (by kernel_rfl) (by kernel_rfl) (by kernel_rfl) (fun _ _ _ h => h) (Or.inl ⟨by kernel_rfl, ?_⟩) (by assumption) ?_
            rotate_left
            · intro w hSw; (try dsimp only at hSw); go_simp; try with_reducible rfl
            simp only [Act.put, List.setIfInBounds_toArray, List.set_cons_zero, List.set_cons_succ]
            refine wpAnyH_ready (rs := [9]) (by kernel_rfl) (by simp) ?_
            refine AllReadyH.cons (o := { dst := none, op := Go.Op.store 29 (Go.Operand.tmp 6) (Go.Operand.tmp 27), type := 0, pos := "exact.go:4595", after := #[{ on := 8, ground := Go.Ground.data }, { on := 6, ground := Go.Ground.data }, { on := 4, ground := Go.Ground.chain }, { on := 0, ground := Go.Ground.phase }, { on := 1, ground := Go.Ground.phase }, { on := 2, ground := Go.Ground.phase }, { on := 3, ground := Go.Ground.phase }, { on := 4, ground := Go.Ground.phase }, { on := 5, ground := Go.Ground.phase }, { on := 6, ground := Go.Ground.phase }, { on := 7, ground := Go.Ground.textOnly Go.Departure.lateStores }, { on := 8, ground := Go.Ground.phase }], guard := none }) rfl (fun K hK => ?_) ?_
            · obtain ⟨z0, z1⟩ := blk_pair_cells HP4.out
              have zf0 := HP4.out.frozen 0
              have zf1 := HP4.out.frozen 1
              go_simp
              have GB : Hid (GBox w1 ((wq4.setCell ⟨w1.heap.size, 0, none⟩ (.int .i64 s0)).setCell ⟨w1.heap.size, 1, none⟩ (.slice a9 n9 cap9)) w1.heap.size s0 a9 n9 cap9 wq3.heap.size wq4.heap.size LL) := GBox.stored (HB4.out) HP4.out HO9.out (((Below.refl w1.heap.size w1).drew).size) HP3.out.lt
              have hk5 := HKS.out _ GB.out.bel
              refine hK.out _ _ hk5 (fun hHeld => ?_)
              clear hK K
              try simp only [Act.put, List.setIfInBounds_toArray, List.set_cons_zero, List.set_cons_succ]
              refine wpAnyH_take (i := 10) (oi := { dst := some 7, op := Go.Op.assign (Go.Operand.tmp 28), type := 4, pos := "exact.go:4595", after := #[{ on := 7, ground := Go.Ground.data }, { on := 9, ground := Go.Ground.chain }, { on := 0, ground := Go.Ground.phase }, { on := 1, ground := Go.Ground.phase }, { on := 2, ground := Go.Ground.phase }, { on := 3, ground := Go.Ground.phase }, { on := 4, ground := Go.Ground.phase }, { on := 5, ground := Go.Ground.phase }, { on := 6, ground := Go.Ground.phase }, { on := 7, ground := Go.Ground.phase }, { on := 8, ground := Go.Ground.phase }, { on := 9, ground := Go.Ground.phase }], guard := none }) (v := ?_) rfl (by kernel_rfl) (by kernel_rfl) (by kernel_rfl) (fun _ _ _ h => h) (Or.inl ⟨by kernel_rfl, ?_⟩) (by assumption) ?_
              rotate_left
              · intro w hSw; (try dsimp only at hSw); go_simp; try with_reducible rfl
              simp only [Act.put, List.setIfInBounds_toArray, List.set_cons_zero, List.set_cons_succ]
              refine wpAnyH_done (by kernel_rfl) ?_ _
              clear hHeld
              go_wp2_with fail
              go_meet
              case rel => exact ⟨_, a9, n9, cap9, _, _, rfl, rfl, HN9, GB⟩
            exact AllReadyH.nil
          exact AllReadyH.nil
        exact AllReadyH.nil
      exact AllReadyH.nil
    exact AllReadyH.nil
  case rest =>
    obtain ⟨P5, a5, n5, cap5, lo5, hi5, rfl, rfl, HN5, HGB⟩ := hcut
    obtain ⟨w5, rfl⟩ : ∃ z, z = wc := ⟨_, rfl⟩
    clear q_3 q_4 q_5 q_6 q_7 HKS HTG
    have HGBB : Hid (Below w1.heap.size w1 w5) := HGB.out.bel
    have HD_8 : Hid (Hold w w5 [(P5, [.int .i64 s0, .slice a5 n5 cap5]), (w.heap.size + 1, [.int .i64 x10, .int .u8 x11, .int .i64 x12]), (w.heap.size, [.int .i64 s0, .slice a0 n0 cap0])]) := HD_1.out.also HGBB.out HGB.out.box
    clear HD_1
    have ZZ9 : Hid (w1.heap.size ≤ lo5 ∧ w1.heap.size ≤ P5) := HGB.out.low
    have OFF_P5 : Hid (P5 < lo5 ∨ hi5 ≤ P5) := HGB.out.off
    have ZZ10 : Hid (hi5 ≤ w5.heap.size ∧ P5 < w5.heap.size) := HGB.out.size
    have ZZ11 : Hid (w1.heap.size ≤ w5.heap.size) := HGBB.out.size
    have W0_12 : Hid (EdgesOwn lo5 hi5 w5 a5 LL) := HGB.out.own
    clear HGB HGBB
    have HM5 : Hid (n5 ≤ 1048576) := by rw [← HN5.out]; exact HN0.out
    have q_14 : w5.cell? ⟨w.heap.size, 0, none⟩ = some (.int .i64 s0) := HD_8.out.cell (b := w.heap.size) (vs := [.int .i64 s0, .slice a0 n0 cap0]) (i := 0) (by simp) (by simp)
    have q_15 : w5.cell? ⟨w.heap.size, 1, none⟩ = some (.slice a0 n0 cap0) := HD_8.out.cell (b := w.heap.size) (vs := [.int .i64 s0, .slice a0 n0 cap0]) (i := 1) (by simp) (by simp)
    go_wp2_with fail
    refine (toGraph_any 0 w.heap.size s0 a0 n0 cap0 l0 _ (HR0.out.below HD_8.out.bel (Nat.le_refl _)) HD_8.out.bel.size HL0.out HM.out).mono ?_
    rintro e w6 ⟨g6, rfl, X_13, B_16⟩
    clear q_14 q_15
    have HD_17 : Hid (Hold w w6 [(P5, [.int .i64 s0, .slice a5 n5 cap5]), (w.heap.size + 1, [.int .i64 x10, .int .u8 x11, .int .i64 x12]), (w.heap.size, [.int .i64 s0, .slice a0 n0 cap0])]) := HD_8.out.below B_16.out
    clear HD_8
    have ZZ18 : Hid (w5.heap.size ≤ w6.heap.size) := B_16.out.size
    have W0_18 : Hid (EdgesOwn lo5 hi5 w6 a5 LL) := W0_12.out.below B_16.out (by have y0 := ZZ2.out; have y1 := ZZ9.out; have y2 := ZZ10.out; have y3 := ZZ11.out; have y4 := ZZ18.out; omega)
    clear W0_12
    clear B_16
    have X0_19 : Hid (EdgesOwn w5.heap.size w6.heap.size w6 (some ⟨g6, 0, none⟩) l0) := X_13.out
    clear X_13
    have BA_20 : Hid (Below w6.heap.size w6 (w6.alloc (.cells #[.int .i64 s0, .slice (some ⟨g6, 0, none⟩) n0 n0] 29))) := below1' w6 _
    have HD_21 : Hid (Hold w (w6.alloc (.cells #[.int .i64 s0, .slice (some ⟨g6, 0, none⟩) n0 n0] 29)) [(w6.heap.size, [.int .i64 s0, .slice (some ⟨g6, 0, none⟩) n0 n0]), (P5, [.int .i64 s0, .slice a5 n5 cap5]), (w.heap.size + 1, [.int .i64 x10, .int .u8 x11, .int .i64 x12]), (w.heap.size, [.int .i64 s0, .slice a0 n0 cap0])]) := HD_17.out.more [.int .i64 s0, .slice (some ⟨g6, 0, none⟩) n0 n0] 29
    clear HD_17
    have ZZ22 : Hid ((w6.alloc (.cells #[.int .i64 s0, .slice (some ⟨g6, 0, none⟩) n0 n0] 29)).heap.size = w6.heap.size + 1) := by show _ = _; simp
    have ZZ23 : Hid (w6.heap.size ≤ (w6.alloc (.cells #[.int .i64 s0, .slice (some ⟨g6, 0, none⟩) n0 n0] 29)).heap.size) := BA_20.out.size
    have W0_23 : Hid (EdgesOwn lo5 hi5 (w6.alloc (.cells #[.int .i64 s0, .slice (some ⟨g6, 0, none⟩) n0 n0] 29)) a5 LL) := W0_18.out.below BA_20.out (by have y0 := ZZ2.out; have y1 := ZZ9.out; have y2 := ZZ10.out; have y3 := ZZ11.out; have y4 := ZZ18.out; have y5 := ZZ22.out; have y6 := ZZ23.out; omega)
    have X0_23 : Hid (EdgesOwn w5.heap.size w6.heap.size (w6.alloc (.cells #[.int .i64 s0, .slice (some ⟨g6, 0, none⟩) n0 n0] 29)) (some ⟨g6, 0, none⟩) l0) := X0_19.out.below BA_20.out (by have y0 := ZZ2.out; have y1 := ZZ9.out; have y2 := ZZ10.out; have y3 := ZZ11.out; have y4 := ZZ18.out; have y5 := ZZ22.out; have y6 := ZZ23.out; omega)
    clear W0_18 X0_19
    clear BA_20
    obtain ⟨w7, HW7⟩ : ∃ z, Hid (z = (w6.alloc (.cells #[.int .i64 s0, .slice (some ⟨g6, 0, none⟩) n0 n0] 29))) := ⟨_, rfl⟩
    go_upto_region 7 with fail
    rw [← HW7.out]
    have W0_23z : Hid (EdgesOwn lo5 hi5 w7 a5 LL) := by rw [HW7.out]; exact W0_23.out
    have X0_23z : Hid (EdgesOwn w5.heap.size w6.heap.size w7 (some ⟨g6, 0, none⟩) l0) := by rw [HW7.out]; exact X0_23.out
    clear W0_23 X0_23
    have HDz : Hid (Hold w w7 [(w6.heap.size, [.int .i64 s0, .slice (some ⟨g6, 0, none⟩) n0 n0]), (P5, [.int .i64 s0, .slice a5 n5 cap5]), (w.heap.size + 1, [.int .i64 x10, .int .u8 x11, .int .i64 x12]), (w.heap.size, [.int .i64 s0, .slice a0 n0 cap0])]) := by rw [HW7.out]; exact HD_21.out
    clear HD_21
    have ZZz : Hid (w7.heap.size = w6.heap.size + 1) := by rw [HW7.out]; show _ = _; simp
    clear HW7
    have HKS : Hid (∀ w', Below w7.heap.size w7 w' → (w'.cell? ⟨w6.heap.size, 0, none⟩ = some (.int .i64 s0) ∧ w'.cell? ⟨w6.heap.size, 1, none⟩ = some (.slice (some ⟨g6, 0, none⟩) n0 n0) ∧ w'.cell? ⟨w.heap.size + 1, 0, none⟩ = some (.int .i64 x10) ∧ w'.cell? ⟨w.heap.size + 1, 1, none⟩ = some (.int .u8 x11) ∧ w'.cell? ⟨w.heap.size + 1, 2, none⟩ = some (.int .i64 x12))) := fun w' h => ⟨(HDz.out.below h).cell (b := w6.heap.size) (vs := [.int .i64 s0, .slice (some ⟨g6, 0, none⟩) n0 n0]) (i := 0) (by simp) (by simp), (HDz.out.below h).cell (b := w6.heap.size) (vs := [.int .i64 s0, .slice (some ⟨g6, 0, none⟩) n0 n0]) (i := 1) (by simp) (by simp), (HDz.out.below h).cell (b := w.heap.size + 1) (vs := [.int .i64 x10, .int .u8 x11, .int .i64 x12]) (i := 0) (by simp) (by simp), (HDz.out.below h).cell (b := w.heap.size + 1) (vs := [.int .i64 x10, .int .u8 x11, .int .i64 x12]) (i := 1) (by simp) (by simp), (HDz.out.below h).cell (b := w.heap.size + 1) (vs := [.int .i64 x10, .int .u8 x11, .int .i64 x12]) (i := 2) (by simp) (by simp)⟩
    have HXW : Hid (EdgesIn w5.heap.size w6.heap.size w7 (some ⟨g6, 0, none⟩) l0) := X0_23z.out.toIn
    have HXS : Hid (w6.heap.size ≤ w7.heap.size) := (by show _ ≤ _; have y0 := ZZ2.out; have y1 := ZZ9.out; have y2 := ZZ10.out; have y3 := ZZ11.out; have y4 := ZZ18.out; have y5 := ZZ22.out; have y6 := ZZ23.out; have y7 := ZZz.out; omega)
    have q_24 : w7.cell? ⟨w6.heap.size, 0, none⟩ = some (.int .i64 s0) := HDz.out.cell (b := w6.heap.size) (vs := [.int .i64 s0, .slice (some ⟨g6, 0, none⟩) n0 n0]) (i := 0) (by simp) (by simp)
    have q_25 : w7.cell? ⟨w6.heap.size, 1, none⟩ = some (.slice (some ⟨g6, 0, none⟩) n0 n0) := HDz.out.cell (b := w6.heap.size) (vs := [.int .i64 s0, .slice (some ⟨g6, 0, none⟩) n0 n0]) (i := 1) (by simp) (by simp)
    have q_26 : w7.cell? ⟨w.heap.size + 1, 0, none⟩ = some (.int .i64 x10) := HDz.out.cell (b := w.heap.size + 1) (vs := [.int .i64 x10, .int .u8 x11, .int .i64 x12]) (i := 0) (by simp) (by simp)
    have q_27 : w7.cell? ⟨w.heap.size + 1, 1, none⟩ = some (.int .u8 x11) := HDz.out.cell (b := w.heap.size + 1) (vs := [.int .i64 x10, .int .u8 x11, .int .i64 x12]) (i := 1) (by simp) (by simp)
    have q_28 : w7.cell? ⟨w.heap.size + 1, 2, none⟩ = some (.int .i64 x12) := HDz.out.cell (b := w.heap.size + 1) (vs := [.int .i64 x10, .int .u8 x11, .int .i64 x12]) (i := 2) (by simp) (by simp)
    go_upto_region 7 with fail
    go_cut [9, 10] (fun p ok wc => ∃ (P : Nat) (a : Option Addr) (n cap lo hi : Nat), p = .pointer (some ⟨P, 0, none⟩) ∧ ok = .bool OK ∧ Hid (LL.length = n) ∧ Hid (GBox w7 wc P s0 a n cap lo hi LL))
    case first =>
      refine wp_region_held_drew (S := fun w' => w'.cell? ⟨w6.heap.size, 0, none⟩ = some (.int .i64 s0) ∧ w'.cell? ⟨w6.heap.size, 1, none⟩ = some (.slice (some ⟨g6, 0, none⟩) n0 n0) ∧ w'.cell? ⟨w.heap.size + 1, 0, none⟩ = some (.int .i64 x10) ∧ w'.cell? ⟨w.heap.size + 1, 1, none⟩ = some (.int .u8 x11) ∧ w'.cell? ⟨w.heap.size + 1, 2, none⟩ = some (.int .i64 x12)) (by kernel_rfl) ⟨q_24, q_25, q_26, q_27, q_28⟩ (fun hHeld => ?_)
      clear q_24 q_25 q_26 q_27 q_28
      refine wpAnyH_take (i := 0) (oi := { dst := some 32, op := Go.Op.load 29 (Go.Operand.tmp 8), type := 29, pos := "exact.go:4597", after := #[], guard := none }) (v := ?_) rfl (by kernel_rfl) (by kernel_rfl) (by kernel_rfl) (fun _ _ _ h => h) (Or.inl ⟨by kernel_rfl, ?_⟩) (by assumption) ?_
      rotate_left
      · intro w hSw; (try dsimp only at hSw); go_simp; try with_reducible rfl
      simp only [Act.put, List.setIfInBounds_toArray, List.set_cons_zero, List.set_cons_succ]
      refine wpAnyH_take (i := 1) (oi := { dst := some 33, op := Go.Op.load 34 (Go.Operand.tmp 3), type := 34, pos := "exact.go:4597", after := #[], guard := none }) (v := ?_) rfl (by kernel_rfl) (by kernel_rfl) (by kernel_rfl) (fun _ _ _ h => h) (Or.inl ⟨by kernel_rfl, ?_⟩) (by assumption) ?_
      rotate_left
      · intro w hSw; (try dsimp only at hSw); go_simp; try with_reducible rfl
      simp only [Act.put, List.setIfInBounds_toArray, List.set_cons_zero, List.set_cons_succ]
      refine wpAnyH_ready (rs := [2, 7]) (by kernel_rfl) (by simp) ?_
      refine AllReadyH.cons (o := { dst := some 34, op := Go.Op.call { callee := Go.Callee.value (Go.Operand.func 15), args := #[Go.Operand.tmp 33], argTypes := #[34] }, type := 37, pos := "exact.go:4597", after := #[{ on := 1, ground := Go.Ground.data }], guard := none }) rfl (fun K hK => ?_) ?_
      · go_simp
        go_wp2_with (go_at_call 15; refine (toEdge_any (x10, x11, x12) _).mono ?_; rintro e wq1 ⟨rfl, C1⟩)
        have HB1 : Hid (Below w7.heap.size w7 wq1) := ((Below.refl w7.heap.size w7).drew).trans (C1.out.mono ((Below.refl w7.heap.size w7).drew).size)
        have hk1 := HKS.out _ HB1.out
        refine hK.out _ _ hk1 (fun hHeld => ?_)
        clear hK K
        try simp only [Act.put, List.setIfInBounds_toArray, List.set_cons_zero, List.set_cons_succ]
        refine wpAnyH_ready (rs := [3, 7]) (by kernel_rfl) (by simp) ?_
        refine AllReadyH.cons (o := { dst := some 35, op := Go.Op.call { callee := Go.Callee.value (Go.Operand.func 16), args := #[Go.Operand.tmp 32, Go.Operand.tmp 34], argTypes := #[29, 37] }, type := 35, pos := "exact.go:4597", after := #[{ on := 0, ground := Go.Ground.data }, { on := 2, ground := Go.Ground.data }, { on := 2, ground := Go.Ground.chain }], guard := none }) rfl (fun K hK => ?_) ?_
        · go_simp
          go_wp2_with (go_at_call 16; refine (HADDI.out _ _ _ _ (HXW.out.below (HB1.out) HXS.out) (Nat.le_trans HXS.out (HB1.out).size)).mono ?_; rintro e wq2 ⟨a9, n9, cap9, rfl, HN9, HO9, C2⟩)
          have HB2 : Hid (Below w7.heap.size w7 wq2) := (HB1.out).trans (C2.out.mono (HB1.out).size)
          have hk2 := HKS.out _ HB2.out
          refine hK.out _ _ hk2 (fun hHeld => ?_)
          clear hK K
          try simp only [Act.put, List.setIfInBounds_toArray, List.set_cons_zero, List.set_cons_succ]
          refine wpAnyH_take (i := 4) (oi := { dst := some 31, op := Go.Op.move (Go.Operand.tmp 35), type := 35, pos := "exact.go:4597", after := #[{ on := 3, ground := Go.Ground.data }], guard := none }) (v := ?_) rfl (by kernel_rfl) (by kernel_rfl) (by kernel_rfl) (fun _ _ _ h => h) (Or.inl ⟨by kernel_rfl, ?_⟩) (by assumption) ?_
          rotate_left
          · intro w hSw; (try dsimp only at hSw); go_simp; try with_reducible rfl
          simp only [Act.put, List.setIfInBounds_toArray, List.set_cons_zero, List.set_cons_succ]
          refine wpAnyH_take (i := 5) (oi := { dst := some 36, op := Go.Op.extract (Go.Operand.tmp 31) 0, type := 29, pos := "exact.go:4597", after := #[{ on := 4, ground := Go.Ground.data }], guard := none }) (v := ?_) rfl (by kernel_rfl) (by kernel_rfl) (by kernel_rfl) (fun _ _ _ h => h) (Or.inl ⟨by kernel_rfl, ?_⟩) (by assumption) ?_
          rotate_left
          · intro w hSw; (try dsimp only at hSw); go_simp; try with_reducible rfl
          simp only [Act.put, List.setIfInBounds_toArray, List.set_cons_zero, List.set_cons_succ]
          refine wpAnyH_take (i := 6) (oi := { dst := some 37, op := Go.Op.extract (Go.Operand.tmp 31) 1, type := 4, pos := "exact.go:4597", after := #[{ on := 4, ground := Go.Ground.data }, { on := 8, ground := Go.Ground.gcOnly Go.Departure.lateStores }], guard := none }) (v := ?_) rfl (by kernel_rfl) (by kernel_rfl) (by kernel_rfl) (fun _ _ _ h => h) (Or.inl ⟨by kernel_rfl, ?_⟩) (by assumption) ?_
          rotate_left
          · intro w hSw; (try dsimp only at hSw); go_simp; try with_reducible rfl
          simp only [Act.put, List.setIfInBounds_toArray, List.set_cons_zero, List.set_cons_succ]
          refine wpAnyH_ready (rs := [7]) (by kernel_rfl) (by simp) ?_
          refine AllReadyH.cons (o := { dst := some 9, op := Go.Op.alloc 29, type := 0, pos := "exact.go:4597", after := #[], guard := none }) rfl (fun K hK => ?_) ?_
          · go_simp
            have hk3 := HKS.out (wq2.alloc (.cells #[.int .i64 0, .slice none 0 0] 29)) ((HB2.out).alloc (HB2.out).size _)
            refine hK.out _ _ hk3 (fun hHeld => ?_)
            clear hK K
            try simp only [Act.put, List.setIfInBounds_toArray, List.set_cons_zero, List.set_cons_succ]
            refine wpAnyH_ready (rs := [8]) (by kernel_rfl) (by simp) ?_
            refine AllReadyH.cons (o := { dst := none, op := Go.Op.store 29 (Go.Operand.tmp 9) (Go.Operand.tmp 36), type := 0, pos := "exact.go:4597", after := #[{ on := 7, ground := Go.Ground.data }, { on := 5, ground := Go.Ground.data }, { on := 3, ground := Go.Ground.chain }, { on := 0, ground := Go.Ground.phase }, { on := 1, ground := Go.Ground.phase }, { on := 2, ground := Go.Ground.phase }, { on := 3, ground := Go.Ground.phase }, { on := 4, ground := Go.Ground.phase }, { on := 5, ground := Go.Ground.phase }, { on := 6, ground := Go.Ground.textOnly Go.Departure.lateStores }, { on := 7, ground := Go.Ground.phase }], guard := none }) rfl (fun K hK => ?_) ?_
            · go_simp
              have GB : Hid (GBox w7 (wq2.alloc (.cells #[.int .i64 s0, .slice a9 n9 cap9] 29)) wq2.heap.size s0 a9 n9 cap9 wq1.heap.size wq2.heap.size LL) := GBox.fresh (HB2.out) HO9.out ((HB1.out).size) 29
              have hk4 := HKS.out _ GB.out.bel
              refine hK.out _ _ hk4 (fun hHeld => ?_)
              clear hK K
              try simp only [Act.put, List.setIfInBounds_toArray, List.set_cons_zero, List.set_cons_succ]
              refine wpAnyH_take (i := 9) (oi := { dst := some 10, op := Go.Op.assign (Go.Operand.tmp 37), type := 4, pos := "exact.go:4597", after := #[{ on := 6, ground := Go.Ground.data }, { on := 8, ground := Go.Ground.chain }, { on := 0, ground := Go.Ground.phase }, { on := 1, ground := Go.Ground.phase }, { on := 2, ground := Go.Ground.phase }, { on := 3, ground := Go.Ground.phase }, { on := 4, ground := Go.Ground.phase }, { on := 5, ground := Go.Ground.phase }, { on := 6, ground := Go.Ground.phase }, { on := 7, ground := Go.Ground.phase }, { on := 8, ground := Go.Ground.phase }], guard := none }) (v := ?_) rfl (by kernel_rfl) (by kernel_rfl) (by kernel_rfl) (fun _ _ _ h => h) (Or.inl ⟨by kernel_rfl, ?_⟩) (by assumption) ?_
              rotate_left
              · intro w hSw; (try dsimp only at hSw); go_simp; try with_reducible rfl
              simp only [Act.put, List.setIfInBounds_toArray, List.set_cons_zero, List.set_cons_succ]
              refine wpAnyH_done (by kernel_rfl) ?_ _
              clear hHeld
              go_wp2_with fail
              go_meet
              case rel => exact ⟨_, a9, n9, cap9, _, _, rfl, rfl, HN9, GB⟩
            exact AllReadyH.nil
          exact AllReadyH.nil
        refine AllReadyH.cons (o := { dst := some 9, op := Go.Op.alloc 29, type := 0, pos := "exact.go:4597", after := #[], guard := none }) rfl (fun K hK => ?_) ?_
        · go_simp
          have HB2 : Hid (Below w7.heap.size w7 (wq1.alloc (.cells #[.int .i64 0, .slice none 0 0] 29))) := (HB1.out).alloc (HB1.out).size _
          have hk2 := HKS.out _ HB2.out
          have HP2 : Hid (Blk (wq1.alloc (.cells #[.int .i64 0, .slice none 0 0] 29)) wq1.heap.size 2 (fun i => if i = 0 then .int .i64 0 else .slice none 0 0)) := blk_two wq1 _ rfl _ _ _
          refine hK.out _ _ hk2 (fun hHeld => ?_)
          clear hK K
          try simp only [Act.put, List.setIfInBounds_toArray, List.set_cons_zero, List.set_cons_succ]
          refine wpAnyH_ready (rs := [3]) (by kernel_rfl) (by simp) ?_
          refine AllReadyH.cons (o := { dst := some 35, op := Go.Op.call { callee := Go.Callee.value (Go.Operand.func 16), args := #[Go.Operand.tmp 32, Go.Operand.tmp 34], argTypes := #[29, 37] }, type := 35, pos := "exact.go:4597", after := #[{ on := 0, ground := Go.Ground.data }, { on := 2, ground := Go.Ground.data }, { on := 2, ground := Go.Ground.chain }], guard := none }) rfl (fun K hK => ?_) ?_
          · go_simp
            go_wp2_with (go_at_call 16; refine (HADDI.out _ _ _ _ (HXW.out.below (HB2.out) HXS.out) (Nat.le_trans HXS.out (HB2.out).size)).mono ?_; rintro e wq3 ⟨a9, n9, cap9, rfl, HN9, HO9, C3⟩)
            have HB3 : Hid (Below w7.heap.size w7 wq3) := (HB2.out).trans (C3.out.mono (HB2.out).size)
            have hk3 := HKS.out _ HB3.out
            have HP3 : Hid (Blk wq3 wq1.heap.size 2 (fun i => if i = 0 then .int .i64 0 else .slice none 0 0)) := HP2.out.of_block (C3.out.block _ HP2.out.lt)
            refine hK.out _ _ hk3 (fun hHeld => ?_)
            clear hK K
            try simp only [Act.put, List.setIfInBounds_toArray, List.set_cons_zero, List.set_cons_succ]
            refine wpAnyH_take (i := 4) (oi := { dst := some 31, op := Go.Op.move (Go.Operand.tmp 35), type := 35, pos := "exact.go:4597", after := #[{ on := 3, ground := Go.Ground.data }], guard := none }) (v := ?_) rfl (by kernel_rfl) (by kernel_rfl) (by kernel_rfl) (fun _ _ _ h => h) (Or.inl ⟨by kernel_rfl, ?_⟩) (by assumption) ?_
            rotate_left
            · intro w hSw; (try dsimp only at hSw); go_simp; try with_reducible rfl
            simp only [Act.put, List.setIfInBounds_toArray, List.set_cons_zero, List.set_cons_succ]
            refine wpAnyH_take (i := 5) (oi := { dst := some 36, op := Go.Op.extract (Go.Operand.tmp 31) 0, type := 29, pos := "exact.go:4597", after := #[{ on := 4, ground := Go.Ground.data }], guard := none }) (v := ?_) rfl (by kernel_rfl) (by kernel_rfl) (by kernel_rfl) (fun _ _ _ h => h) (Or.inl ⟨by kernel_rfl, ?_⟩) (by assumption) ?_
            rotate_left
            · intro w hSw; (try dsimp only at hSw); go_simp; try with_reducible rfl
            simp only [Act.put, List.setIfInBounds_toArray, List.set_cons_zero, List.set_cons_succ]
            refine wpAnyH_take (i := 6) (oi := { dst := some 37, op := Go.Op.extract (Go.Operand.tmp 31) 1, type := 4, pos := "exact.go:4597", after := #[{ on := 4, ground := Go.Ground.data }, { on := 8, ground := Go.Ground.gcOnly Go.Departure.lateStores }], guard := none }) (v := ?_) rfl (by kernel_rfl) (by kernel_rfl) (by kernel_rfl) (fun _ _ _ h => h) (Or.inl ⟨by kernel_rfl, ?_⟩) (by assumption) ?_
            rotate_left
            · intro w hSw; (try dsimp only at hSw); go_simp; try with_reducible rfl
            simp only [Act.put, List.setIfInBounds_toArray, List.set_cons_zero, List.set_cons_succ]
            refine wpAnyH_ready (rs := [8]) (by kernel_rfl) (by simp) ?_
            refine AllReadyH.cons (o := { dst := none, op := Go.Op.store 29 (Go.Operand.tmp 9) (Go.Operand.tmp 36), type := 0, pos := "exact.go:4597", after := #[{ on := 7, ground := Go.Ground.data }, { on := 5, ground := Go.Ground.data }, { on := 3, ground := Go.Ground.chain }, { on := 0, ground := Go.Ground.phase }, { on := 1, ground := Go.Ground.phase }, { on := 2, ground := Go.Ground.phase }, { on := 3, ground := Go.Ground.phase }, { on := 4, ground := Go.Ground.phase }, { on := 5, ground := Go.Ground.phase }, { on := 6, ground := Go.Ground.textOnly Go.Departure.lateStores }, { on := 7, ground := Go.Ground.phase }], guard := none }) rfl (fun K hK => ?_) ?_
            · obtain ⟨z0, z1⟩ := blk_pair_cells HP3.out
              have zf0 := HP3.out.frozen 0
              have zf1 := HP3.out.frozen 1
              go_simp
              have GB : Hid (GBox w7 ((wq3.setCell ⟨wq1.heap.size, 0, none⟩ (.int .i64 s0)).setCell ⟨wq1.heap.size, 1, none⟩ (.slice a9 n9 cap9)) wq1.heap.size s0 a9 n9 cap9 (wq1.alloc (.cells #[.int .i64 0, .slice none 0 0] 29)).heap.size wq3.heap.size LL) := GBox.stored (HB3.out) HP3.out HO9.out ((HB1.out).size) HP2.out.lt
              have hk4 := HKS.out _ GB.out.bel
              refine hK.out _ _ hk4 (fun hHeld => ?_)
              clear hK K
              try simp only [Act.put, List.setIfInBounds_toArray, List.set_cons_zero, List.set_cons_succ]
              refine wpAnyH_take (i := 9) (oi := { dst := some 10, op := Go.Op.assign (Go.Operand.tmp 37), type := 4, pos := "exact.go:4597", after := #[{ on := 6, ground := Go.Ground.data }, { on := 8, ground := Go.Ground.chain }, { on := 0, ground := Go.Ground.phase }, { on := 1, ground := Go.Ground.phase }, { on := 2, ground := Go.Ground.phase }, { on := 3, ground := Go.Ground.phase }, { on := 4, ground := Go.Ground.phase }, { on := 5, ground := Go.Ground.phase }, { on := 6, ground := Go.Ground.phase }, { on := 7, ground := Go.Ground.phase }, { on := 8, ground := Go.Ground.phase }], guard := none }) (v := ?_) rfl (by kernel_rfl) (by kernel_rfl) (by kernel_rfl) (fun _ _ _ h => h) (Or.inl ⟨by kernel_rfl, ?_⟩) (by assumption) ?_
              rotate_left
              · intro w hSw; (try dsimp only at hSw); go_simp; try with_reducible rfl
              simp only [Act.put, List.setIfInBounds_toArray, List.set_cons_zero, List.set_cons_succ]
              refine wpAnyH_done (by kernel_rfl) ?_ _
              clear hHeld
              go_wp2_with fail
              go_meet
              case rel => exact ⟨_, a9, n9, cap9, _, _, rfl, rfl, HN9, GB⟩
            exact AllReadyH.nil
          exact AllReadyH.nil
        exact AllReadyH.nil
      refine AllReadyH.cons (o := { dst := some 9, op := Go.Op.alloc 29, type := 0, pos := "exact.go:4597", after := #[], guard := none }) rfl (fun K hK => ?_) ?_
      · go_simp
        have HB1 : Hid (Below w7.heap.size w7 (w7.alloc (.cells #[.int .i64 0, .slice none 0 0] 29)).drew) := ((Below.refl w7.heap.size w7).drew).alloc ((Below.refl w7.heap.size w7).drew).size _
        have hk1 := HKS.out _ HB1.out
        have HP1 : Hid (Blk (w7.alloc (.cells #[.int .i64 0, .slice none 0 0] 29)).drew w7.heap.size 2 (fun i => if i = 0 then .int .i64 0 else .slice none 0 0)) := blk_two w7 _ rfl _ _ _
        refine hK.out _ _ hk1 (fun hHeld => ?_)
        clear hK K
        try simp only [Act.put, List.setIfInBounds_toArray, List.set_cons_zero, List.set_cons_succ]
        refine wpAnyH_ready (rs := [2]) (by kernel_rfl) (by simp) ?_
        refine AllReadyH.cons (o := { dst := some 34, op := Go.Op.call { callee := Go.Callee.value (Go.Operand.func 15), args := #[Go.Operand.tmp 33], argTypes := #[34] }, type := 37, pos := "exact.go:4597", after := #[{ on := 1, ground := Go.Ground.data }], guard := none }) rfl (fun K hK => ?_) ?_
        · go_simp
          go_wp2_with (go_at_call 15; refine (toEdge_any (x10, x11, x12) _).mono ?_; rintro e wq2 ⟨rfl, C2⟩)
          have HB2 : Hid (Below w7.heap.size w7 wq2) := (HB1.out).trans (C2.out.mono (HB1.out).size)
          have hk2 := HKS.out _ HB2.out
          have HP2 : Hid (Blk wq2 w7.heap.size 2 (fun i => if i = 0 then .int .i64 0 else .slice none 0 0)) := HP1.out.of_block (C2.out.block _ HP1.out.lt)
          refine hK.out _ _ hk2 (fun hHeld => ?_)
          clear hK K
          try simp only [Act.put, List.setIfInBounds_toArray, List.set_cons_zero, List.set_cons_succ]
          refine wpAnyH_ready (rs := [3]) (by kernel_rfl) (by simp) ?_
          refine AllReadyH.cons (o := { dst := some 35, op := Go.Op.call { callee := Go.Callee.value (Go.Operand.func 16), args := #[Go.Operand.tmp 32, Go.Operand.tmp 34], argTypes := #[29, 37] }, type := 35, pos := "exact.go:4597", after := #[{ on := 0, ground := Go.Ground.data }, { on := 2, ground := Go.Ground.data }, { on := 2, ground := Go.Ground.chain }], guard := none }) rfl (fun K hK => ?_) ?_
          · go_simp
            go_wp2_with (go_at_call 16; refine (HADDI.out _ _ _ _ (HXW.out.below (HB2.out) HXS.out) (Nat.le_trans HXS.out (HB2.out).size)).mono ?_; rintro e wq3 ⟨a9, n9, cap9, rfl, HN9, HO9, C3⟩)
            have HB3 : Hid (Below w7.heap.size w7 wq3) := (HB2.out).trans (C3.out.mono (HB2.out).size)
            have hk3 := HKS.out _ HB3.out
            have HP3 : Hid (Blk wq3 w7.heap.size 2 (fun i => if i = 0 then .int .i64 0 else .slice none 0 0)) := HP2.out.of_block (C3.out.block _ HP2.out.lt)
            refine hK.out _ _ hk3 (fun hHeld => ?_)
            clear hK K
            try simp only [Act.put, List.setIfInBounds_toArray, List.set_cons_zero, List.set_cons_succ]
            refine wpAnyH_take (i := 4) (oi := { dst := some 31, op := Go.Op.move (Go.Operand.tmp 35), type := 35, pos := "exact.go:4597", after := #[{ on := 3, ground := Go.Ground.data }], guard := none }) (v := ?_) rfl (by kernel_rfl) (by kernel_rfl) (by kernel_rfl) (fun _ _ _ h => h) (Or.inl ⟨by kernel_rfl, ?_⟩) (by assumption) ?_
            rotate_left
            · intro w hSw; (try dsimp only at hSw); go_simp; try with_reducible rfl
            simp only [Act.put, List.setIfInBounds_toArray, List.set_cons_zero, List.set_cons_succ]
            refine wpAnyH_take (i := 5) (oi := { dst := some 36, op := Go.Op.extract (Go.Operand.tmp 31) 0, type := 29, pos := "exact.go:4597", after := #[{ on := 4, ground := Go.Ground.data }], guard := none }) (v := ?_) rfl (by kernel_rfl) (by kernel_rfl) (by kernel_rfl) (fun _ _ _ h => h) (Or.inl ⟨by kernel_rfl, ?_⟩) (by assumption) ?_
            rotate_left
            · intro w hSw; (try dsimp only at hSw); go_simp; try with_reducible rfl
            simp only [Act.put, List.setIfInBounds_toArray, List.set_cons_zero, List.set_cons_succ]
            refine wpAnyH_take (i := 6) (oi := { dst := some 37, op := Go.Op.extract (Go.Operand.tmp 31) 1, type := 4, pos := "exact.go:4597", after := #[{ on := 4, ground := Go.Ground.data }, { on := 8, ground := Go.Ground.gcOnly Go.Departure.lateStores }], guard := none }) (v := ?_) rfl (by kernel_rfl) (by kernel_rfl) (by kernel_rfl) (fun _ _ _ h => h) (Or.inl ⟨by kernel_rfl, ?_⟩) (by assumption) ?_
            rotate_left
            · intro w hSw; (try dsimp only at hSw); go_simp; try with_reducible rfl
            simp only [Act.put, List.setIfInBounds_toArray, List.set_cons_zero, List.set_cons_succ]
            refine wpAnyH_ready (rs := [8]) (by kernel_rfl) (by simp) ?_
            refine AllReadyH.cons (o := { dst := none, op := Go.Op.store 29 (Go.Operand.tmp 9) (Go.Operand.tmp 36), type := 0, pos := "exact.go:4597", after := #[{ on := 7, ground := Go.Ground.data }, { on := 5, ground := Go.Ground.data }, { on := 3, ground := Go.Ground.chain }, { on := 0, ground := Go.Ground.phase }, { on := 1, ground := Go.Ground.phase }, { on := 2, ground := Go.Ground.phase }, { on := 3, ground := Go.Ground.phase }, { on := 4, ground := Go.Ground.phase }, { on := 5, ground := Go.Ground.phase }, { on := 6, ground := Go.Ground.textOnly Go.Departure.lateStores }, { on := 7, ground := Go.Ground.phase }], guard := none }) rfl (fun K hK => ?_) ?_
            · obtain ⟨z0, z1⟩ := blk_pair_cells HP3.out
              have zf0 := HP3.out.frozen 0
              have zf1 := HP3.out.frozen 1
              go_simp
              have GB : Hid (GBox w7 ((wq3.setCell ⟨w7.heap.size, 0, none⟩ (.int .i64 s0)).setCell ⟨w7.heap.size, 1, none⟩ (.slice a9 n9 cap9)) w7.heap.size s0 a9 n9 cap9 wq2.heap.size wq3.heap.size LL) := GBox.stored (HB3.out) HP3.out HO9.out (((Below.refl w7.heap.size w7).drew).size) HP2.out.lt
              have hk4 := HKS.out _ GB.out.bel
              refine hK.out _ _ hk4 (fun hHeld => ?_)
              clear hK K
              try simp only [Act.put, List.setIfInBounds_toArray, List.set_cons_zero, List.set_cons_succ]
              refine wpAnyH_take (i := 9) (oi := { dst := some 10, op := Go.Op.assign (Go.Operand.tmp 37), type := 4, pos := "exact.go:4597", after := #[{ on := 6, ground := Go.Ground.data }, { on := 8, ground := Go.Ground.chain }, { on := 0, ground := Go.Ground.phase }, { on := 1, ground := Go.Ground.phase }, { on := 2, ground := Go.Ground.phase }, { on := 3, ground := Go.Ground.phase }, { on := 4, ground := Go.Ground.phase }, { on := 5, ground := Go.Ground.phase }, { on := 6, ground := Go.Ground.phase }, { on := 7, ground := Go.Ground.phase }, { on := 8, ground := Go.Ground.phase }], guard := none }) (v := ?_) rfl (by kernel_rfl) (by kernel_rfl) (by kernel_rfl) (fun _ _ _ h => h) (Or.inl ⟨by kernel_rfl, ?_⟩) (by assumption) ?_
              rotate_left
              · intro w hSw; (try dsimp only at hSw); go_simp; try with_reducible rfl
              simp only [Act.put, List.setIfInBounds_toArray, List.set_cons_zero, List.set_cons_succ]
              refine wpAnyH_done (by kernel_rfl) ?_ _
              clear hHeld
              go_wp2_with fail
              go_meet
              case rel => exact ⟨_, a9, n9, cap9, _, _, rfl, rfl, HN9, GB⟩
            exact AllReadyH.nil
          exact AllReadyH.nil
        exact AllReadyH.nil
      exact AllReadyH.nil
    case rest =>
      obtain ⟨P8, a8, n8, cap8, lo8, hi8, rfl, rfl, HN8, HGB⟩ := hcut
      obtain ⟨w8, rfl⟩ : ∃ z, z = wc := ⟨_, rfl⟩
      clear q_24 q_25 q_26 q_27 q_28 HKS HXW HXS
      have HGBB : Hid (Below w7.heap.size w7 w8) := HGB.out.bel
      have HD_29 : Hid (Hold w w8 [(P8, [.int .i64 s0, .slice a8 n8 cap8]), (w6.heap.size, [.int .i64 s0, .slice (some ⟨g6, 0, none⟩) n0 n0]), (P5, [.int .i64 s0, .slice a5 n5 cap5]), (w.heap.size + 1, [.int .i64 x10, .int .u8 x11, .int .i64 x12]), (w.heap.size, [.int .i64 s0, .slice a0 n0 cap0])]) := HDz.out.also HGBB.out HGB.out.box
      clear HDz
      have ZZ30 : Hid (w7.heap.size ≤ lo8 ∧ w7.heap.size ≤ P8) := HGB.out.low
      have OFF_P8 : Hid (P8 < lo8 ∨ hi8 ≤ P8) := HGB.out.off
      have ZZ31 : Hid (hi8 ≤ w8.heap.size ∧ P8 < w8.heap.size) := HGB.out.size
      have ZZ32 : Hid (w7.heap.size ≤ w8.heap.size) := HGBB.out.size
      have W0_32 : Hid (EdgesOwn lo5 hi5 w8 a5 LL) := W0_23z.out.below HGBB.out (by have y0 := ZZ2.out; have y1 := ZZ9.out; have y2 := ZZ10.out; have y3 := ZZ11.out; have y4 := ZZ18.out; have y5 := ZZ22.out; have y6 := ZZ23.out; have y7 := ZZz.out; have y8 := ZZ30.out; have y9 := ZZ31.out; have y10 := ZZ32.out; omega)
      have X0_32 : Hid (EdgesOwn w5.heap.size w6.heap.size w8 (some ⟨g6, 0, none⟩) l0) := X0_23z.out.below HGBB.out (by have y0 := ZZ2.out; have y1 := ZZ9.out; have y2 := ZZ10.out; have y3 := ZZ11.out; have y4 := ZZ18.out; have y5 := ZZ22.out; have y6 := ZZ23.out; have y7 := ZZz.out; have y8 := ZZ30.out; have y9 := ZZ31.out; have y10 := ZZ32.out; omega)
      clear W0_23z X0_23z
      have G0_33 : Hid (EdgesOwn lo8 hi8 w8 a8 LL) := HGB.out.own
      clear HGB HGBB
      obtain rfl : n5 = n8 := by rw [← HN5.out, HN8.out]
      clear HN8
      have q_34 : w8.cell? ⟨P5, 0, none⟩ = some (.int .i64 s0) := HD_29.out.cell (b := P5) (vs := [.int .i64 s0, .slice a5 n5 cap5]) (i := 0) (by simp) (by simp)
      have q_35 : w8.cell? ⟨P5, 1, none⟩ = some (.slice a5 n5 cap5) := HD_29.out.cell (b := P5) (vs := [.int .i64 s0, .slice a5 n5 cap5]) (i := 1) (by simp) (by simp)
      have q_36 : w8.cell? ⟨P8, 0, none⟩ = some (.int .i64 s0) := HD_29.out.cell (b := P8) (vs := [.int .i64 s0, .slice a8 n5 cap8]) (i := 0) (by simp) (by simp)
      have q_37 : w8.cell? ⟨P8, 1, none⟩ = some (.slice a8 n5 cap8) := HD_29.out.cell (b := P8) (vs := [.int .i64 s0, .slice a8 n5 cap8]) (i := 1) (by simp) (by simp)
      go_wp2_with fail
      refine (eqGraph_any lo8 hi8 lo5 hi5 s0 s0 a8 a5 n5 n5 cap8 cap5 LL LL true _ G0_33.out.toIn W0_32.out.toIn (by have y0 := ZZ2.out; have y1 := ZZ9.out; have y2 := ZZ10.out; have y3 := ZZ11.out; have y4 := ZZ18.out; have y5 := ZZ22.out; have y6 := ZZ23.out; have y7 := ZZz.out; have y8 := ZZ30.out; have y9 := ZZ31.out; have y10 := ZZ32.out; omega) (by have y0 := ZZ2.out; have y1 := ZZ9.out; have y2 := ZZ10.out; have y3 := ZZ11.out; have y4 := ZZ18.out; have y5 := ZZ22.out; have y6 := ZZ23.out; have y7 := ZZz.out; have y8 := ZZ30.out; have y9 := ZZ31.out; have y10 := ZZ32.out; omega) HN5.out HN5.out HM5.out (by simp)).mono ?_
      rintro e w9 ⟨rfl, B_38⟩
      clear q_34 q_35 q_36 q_37
      have HD_39 : Hid (Hold w w9 [(P8, [.int .i64 s0, .slice a8 n5 cap8]), (w6.heap.size, [.int .i64 s0, .slice (some ⟨g6, 0, none⟩) n0 n0]), (P5, [.int .i64 s0, .slice a5 n5 cap5]), (w.heap.size + 1, [.int .i64 x10, .int .u8 x11, .int .i64 x12]), (w.heap.size, [.int .i64 s0, .slice a0 n0 cap0])]) := HD_29.out.below B_38.out
      clear HD_29
      have ZZ40 : Hid (w8.heap.size ≤ w9.heap.size) := B_38.out.size
      have W0_40 : Hid (EdgesOwn lo5 hi5 w9 a5 LL) := W0_32.out.below B_38.out (by have y0 := ZZ2.out; have y1 := ZZ9.out; have y2 := ZZ10.out; have y3 := ZZ11.out; have y4 := ZZ18.out; have y5 := ZZ22.out; have y6 := ZZ23.out; have y7 := ZZz.out; have y8 := ZZ30.out; have y9 := ZZ31.out; have y10 := ZZ32.out; have y11 := ZZ40.out; omega)
      have X0_40 : Hid (EdgesOwn w5.heap.size w6.heap.size w9 (some ⟨g6, 0, none⟩) l0) := X0_32.out.below B_38.out (by have y0 := ZZ2.out; have y1 := ZZ9.out; have y2 := ZZ10.out; have y3 := ZZ11.out; have y4 := ZZ18.out; have y5 := ZZ22.out; have y6 := ZZ23.out; have y7 := ZZz.out; have y8 := ZZ30.out; have y9 := ZZ31.out; have y10 := ZZ32.out; have y11 := ZZ40.out; omega)
      have G0_40 : Hid (EdgesOwn lo8 hi8 w9 a8 LL) := G0_33.out.below B_38.out (by have y0 := ZZ2.out; have y1 := ZZ9.out; have y2 := ZZ10.out; have y3 := ZZ11.out; have y4 := ZZ18.out; have y5 := ZZ22.out; have y6 := ZZ23.out; have y7 := ZZz.out; have y8 := ZZ30.out; have y9 := ZZ31.out; have y10 := ZZ32.out; have y11 := ZZ40.out; omega)
      clear W0_32 X0_32 G0_33
      clear B_38
      have q_41 : w9.cell? ⟨w6.heap.size, 0, none⟩ = some (.int .i64 s0) := HD_39.out.cell (b := w6.heap.size) (vs := [.int .i64 s0, .slice (some ⟨g6, 0, none⟩) n0 n0]) (i := 0) (by simp) (by simp)
      have q_42 : w9.cell? ⟨w6.heap.size, 1, none⟩ = some (.slice (some ⟨g6, 0, none⟩) n0 n0) := HD_39.out.cell (b := w6.heap.size) (vs := [.int .i64 s0, .slice (some ⟨g6, 0, none⟩) n0 n0]) (i := 1) (by simp) (by simp)
      have q_43 : w9.cell? ⟨w.heap.size, 0, none⟩ = some (.int .i64 s0) := HD_39.out.cell (b := w.heap.size) (vs := [.int .i64 s0, .slice a0 n0 cap0]) (i := 0) (by simp) (by simp)
      have q_44 : w9.cell? ⟨w.heap.size, 1, none⟩ = some (.slice a0 n0 cap0) := HD_39.out.cell (b := w.heap.size) (vs := [.int .i64 s0, .slice a0 n0 cap0]) (i := 1) (by simp) (by simp)
      have HC1 : Hid (∀ w0, Below w9.heap.size w9 w0 → Calls Try.prog 11 #[gv s0 a0 n0 cap0] w0 fun e w' => ∃ g : Nat, e = .returned (gv s0 (some ⟨g, 0, none⟩) n0 n0) ∧ Hid (EdgesIn w9.heap.size w'.heap.size w' (some ⟨g, 0, none⟩) l0) ∧ Hid (Below w9.heap.size w9 w') ∧ (w'.cell? ⟨w6.heap.size, 0, none⟩ = some (.int .i64 s0) ∧ w'.cell? ⟨w6.heap.size, 1, none⟩ = some (.slice (some ⟨g6, 0, none⟩) n0 n0) ∧ w'.cell? ⟨w.heap.size, 0, none⟩ = some (.int .i64 s0) ∧ w'.cell? ⟨w.heap.size, 1, none⟩ = some (.slice a0 n0 cap0))) := fun w0 h =>
        (toGraph_any 0 w.heap.size s0 a0 n0 cap0 l0 w0 (HR0.out.below (HD_39.out.below h).bel (Nat.le_refl _)) (HD_39.out.below h).bel.size HL0.out HM.out).mono fun _ w' ⟨g, h1, h2, h4⟩ =>
          have h3 : Hid (Hold w w' [(P8, [.int .i64 s0, .slice a8 n5 cap8]), (w6.heap.size, [.int .i64 s0, .slice (some ⟨g6, 0, none⟩) n0 n0]), (P5, [.int .i64 s0, .slice a5 n5 cap5]), (w.heap.size + 1, [.int .i64 x10, .int .u8 x11, .int .i64 x12]), (w.heap.size, [.int .i64 s0, .slice a0 n0 cap0])]) := (HD_39.out.below h).below h4.out
          ⟨g, h1, h2.out.toIn.wide h.size (Nat.le_refl _), h.trans (h4.out.mono h.size), h3.out.cell (b := w6.heap.size) (vs := [.int .i64 s0, .slice (some ⟨g6, 0, none⟩) n0 n0]) (i := 0) (by simp) (by simp), h3.out.cell (b := w6.heap.size) (vs := [.int .i64 s0, .slice (some ⟨g6, 0, none⟩) n0 n0]) (i := 1) (by simp) (by simp), h3.out.cell (b := w.heap.size) (vs := [.int .i64 s0, .slice a0 n0 cap0]) (i := 0) (by simp) (by simp), h3.out.cell (b := w.heap.size) (vs := [.int .i64 s0, .slice a0 n0 cap0]) (i := 1) (by simp) (by simp)⟩
      have HC2 : Hid (∀ (g : Nat) w0, Below w9.heap.size w9 w0 → EdgesIn w9.heap.size w0.heap.size w0 (some ⟨g, 0, none⟩) l0 → Calls Try.prog 13 #[gv s0 (some ⟨g6, 0, none⟩) n0 n0, gv s0 (some ⟨g, 0, none⟩) n0 n0] w0 fun e w' => e = .returned (.bool true) ∧ Hid (Below w9.heap.size w9 w') ∧ (w'.cell? ⟨w6.heap.size, 0, none⟩ = some (.int .i64 s0) ∧ w'.cell? ⟨w6.heap.size, 1, none⟩ = some (.slice (some ⟨g6, 0, none⟩) n0 n0) ∧ w'.cell? ⟨w.heap.size, 0, none⟩ = some (.int .i64 s0) ∧ w'.cell? ⟨w.heap.size, 1, none⟩ = some (.slice a0 n0 cap0))) := fun g w0 h hx =>
        (eqGraph_any w5.heap.size w6.heap.size w9.heap.size w0.heap.size s0 s0 (some ⟨g6, 0, none⟩) (some ⟨g, 0, none⟩) n0 n0 n0 n0 l0 l0 true w0 (X0_40.out.toIn.below h (by have y0 := ZZ2.out; have y1 := ZZ9.out; have y2 := ZZ10.out; have y3 := ZZ11.out; have y4 := ZZ18.out; have y5 := ZZ22.out; have y6 := ZZ23.out; have y7 := ZZz.out; have y8 := ZZ30.out; have y9 := ZZ31.out; have y10 := ZZ32.out; have y11 := ZZ40.out; omega)) hx (by have yy := h.size; have y0 := ZZ2.out; have y1 := ZZ9.out; have y2 := ZZ10.out; have y3 := ZZ11.out; have y4 := ZZ18.out; have y5 := ZZ22.out; have y6 := ZZ23.out; have y7 := ZZz.out; have y8 := ZZ30.out; have y9 := ZZ31.out; have y10 := ZZ32.out; have y11 := ZZ40.out; omega) (Nat.le_refl _) HL0.out HL0.out HM.out (by simp)).mono fun _ w' ⟨h1, h4⟩ =>
          have h3 : Hid (Hold w w' [(P8, [.int .i64 s0, .slice a8 n5 cap8]), (w6.heap.size, [.int .i64 s0, .slice (some ⟨g6, 0, none⟩) n0 n0]), (P5, [.int .i64 s0, .slice a5 n5 cap5]), (w.heap.size + 1, [.int .i64 x10, .int .u8 x11, .int .i64 x12]), (w.heap.size, [.int .i64 s0, .slice a0 n0 cap0])]) := (HD_39.out.below h).below h4.out
          ⟨h1, h.trans (h4.out.mono h.size), h3.out.cell (b := w6.heap.size) (vs := [.int .i64 s0, .slice (some ⟨g6, 0, none⟩) n0 n0]) (i := 0) (by simp) (by simp), h3.out.cell (b := w6.heap.size) (vs := [.int .i64 s0, .slice (some ⟨g6, 0, none⟩) n0 n0]) (i := 1) (by simp) (by simp), h3.out.cell (b := w.heap.size) (vs := [.int .i64 s0, .slice a0 n0 cap0]) (i := 0) (by simp) (by simp), h3.out.cell (b := w.heap.size) (vs := [.int .i64 s0, .slice a0 n0 cap0]) (i := 1) (by simp) (by simp)⟩
      go_wp2_with fail
      go_region_held3 (fun w' => w'.cell? ⟨w6.heap.size, 0, none⟩ = some (.int .i64 s0) ∧ w'.cell? ⟨w6.heap.size, 1, none⟩ = some (.slice (some ⟨g6, 0, none⟩) n0 n0) ∧ w'.cell? ⟨w.heap.size, 0, none⟩ = some (.int .i64 s0) ∧ w'.cell? ⟨w.heap.size, 1, none⟩ = some (.slice a0 n0 cap0)) (first | exact ⟨q_41, q_42, q_43, q_44⟩ | exact hk9 | exact hk10) (first | (go_at_call 11; refine (HC1.out _ ((Below.refl _ _).drew)).mono ?_; rintro e w10 ⟨g9, rfl, X9, B9, hk9⟩) | (go_at_call 13; refine (HC2.out _ _ B9.out X9.out).mono ?_; rintro e w11 ⟨rfl, B10, hk10⟩))
      clear q_41 q_42 q_43 q_44
      clear hk9 hk10 B9 X9 HC1 HC2
      have HD_45 : Hid (Hold w w11 [(P8, [.int .i64 s0, .slice a8 n5 cap8]), (w6.heap.size, [.int .i64 s0, .slice (some ⟨g6, 0, none⟩) n0 n0]), (P5, [.int .i64 s0, .slice a5 n5 cap5]), (w.heap.size + 1, [.int .i64 x10, .int .u8 x11, .int .i64 x12]), (w.heap.size, [.int .i64 s0, .slice a0 n0 cap0])]) := HD_39.out.below B10.out
      clear HD_39
      have ZZ46 : Hid (w9.heap.size ≤ w11.heap.size) := B10.out.size
      have W0_46 : Hid (EdgesOwn lo5 hi5 w11 a5 LL) := W0_40.out.below B10.out (by have y0 := ZZ2.out; have y1 := ZZ9.out; have y2 := ZZ10.out; have y3 := ZZ11.out; have y4 := ZZ18.out; have y5 := ZZ22.out; have y6 := ZZ23.out; have y7 := ZZz.out; have y8 := ZZ30.out; have y9 := ZZ31.out; have y10 := ZZ32.out; have y11 := ZZ40.out; have y12 := ZZ46.out; omega)
      have X0_46 : Hid (EdgesOwn w5.heap.size w6.heap.size w11 (some ⟨g6, 0, none⟩) l0) := X0_40.out.below B10.out (by have y0 := ZZ2.out; have y1 := ZZ9.out; have y2 := ZZ10.out; have y3 := ZZ11.out; have y4 := ZZ18.out; have y5 := ZZ22.out; have y6 := ZZ23.out; have y7 := ZZz.out; have y8 := ZZ30.out; have y9 := ZZ31.out; have y10 := ZZ32.out; have y11 := ZZ40.out; have y12 := ZZ46.out; omega)
      have G0_46 : Hid (EdgesOwn lo8 hi8 w11 a8 LL) := G0_40.out.below B10.out (by have y0 := ZZ2.out; have y1 := ZZ9.out; have y2 := ZZ10.out; have y3 := ZZ11.out; have y4 := ZZ18.out; have y5 := ZZ22.out; have y6 := ZZ23.out; have y7 := ZZz.out; have y8 := ZZ30.out; have y9 := ZZ31.out; have y10 := ZZ32.out; have y11 := ZZ40.out; have y12 := ZZ46.out; omega)
      clear W0_40 X0_40 G0_40
      clear B10
      have q_47 : w11.cell? ⟨w6.heap.size, 0, none⟩ = some (.int .i64 s0) := HD_45.out.cell (b := w6.heap.size) (vs := [.int .i64 s0, .slice (some ⟨g6, 0, none⟩) n0 n0]) (i := 0) (by simp) (by simp)
      have q_48 : w11.cell? ⟨w6.heap.size, 1, none⟩ = some (.slice (some ⟨g6, 0, none⟩) n0 n0) := HD_45.out.cell (b := w6.heap.size) (vs := [.int .i64 s0, .slice (some ⟨g6, 0, none⟩) n0 n0]) (i := 1) (by simp) (by simp)
      go_wp2_with fail
      refine (markGraph_any w5.heap.size w6.heap.size s0 (some ⟨g6, 0, none⟩) n0 n0 1 l0 _ X0_46.out (by have y0 := ZZ2.out; have y1 := ZZ9.out; have y2 := ZZ10.out; have y3 := ZZ11.out; have y4 := ZZ18.out; have y5 := ZZ22.out; have y6 := ZZ23.out; have y7 := ZZz.out; have y8 := ZZ30.out; have y9 := ZZ31.out; have y10 := ZZ32.out; have y11 := ZZ40.out; have y12 := ZZ46.out; omega) HL0.out HM.out (by omega)).mono ?_
      rintro e w12 ⟨m12, rfl, HM_m12, X_49, K_49⟩
      clear q_47 q_48
      have HD_50 : Hid (Hold w w12 [(P8, [.int .i64 s0, .slice a8 n5 cap8]), (w6.heap.size, [.int .i64 s0, .slice (some ⟨g6, 0, none⟩) n0 n0]), (P5, [.int .i64 s0, .slice a5 n5 cap5]), (w.heap.size + 1, [.int .i64 x10, .int .u8 x11, .int .i64 x12]), (w.heap.size, [.int .i64 s0, .slice a0 n0 cap0])]) := HD_45.out.kept K_49.out (by intro x hx; simp only [List.mem_cons, List.not_mem_nil, or_false] at hx; have y0 := ZZ2.out; have y1 := ZZ9.out; have y2 := ZZ10.out; have y3 := ZZ11.out; have y4 := ZZ18.out; have y5 := ZZ22.out; have y6 := ZZ23.out; have y7 := ZZz.out; have y8 := ZZ30.out; have y9 := ZZ31.out; have y10 := ZZ32.out; have y11 := ZZ40.out; have y12 := ZZ46.out; rcases hx with rfl | rfl | rfl | rfl | rfl <;> dsimp only <;> omega) (fun k hk => by have y0 := ZZ2.out; have y1 := ZZ9.out; have y2 := ZZ10.out; have y3 := ZZ11.out; have y4 := ZZ18.out; have y5 := ZZ22.out; have y6 := ZZ23.out; have y7 := ZZz.out; have y8 := ZZ30.out; have y9 := ZZ31.out; have y10 := ZZ32.out; have y11 := ZZ40.out; have y12 := ZZ46.out; omega)
      clear HD_45
      have ZZ51 : Hid (w11.heap.size ≤ w12.heap.size) := K_49.out.size
      have W0_51 : Hid (EdgesOwn lo5 hi5 w12 a5 LL) := W0_46.out.kept K_49.out (fun c h1 h2 h3 => by have y0 := ZZ2.out; have y1 := ZZ9.out; have y2 := ZZ10.out; have y3 := ZZ11.out; have y4 := ZZ18.out; have y5 := ZZ22.out; have y6 := ZZ23.out; have y7 := ZZz.out; have y8 := ZZ30.out; have y9 := ZZ31.out; have y10 := ZZ32.out; have y11 := ZZ40.out; have y12 := ZZ46.out; have y13 := ZZ51.out; omega)
      have G0_51 : Hid (EdgesOwn lo8 hi8 w12 a8 LL) := G0_46.out.kept K_49.out (fun c h1 h2 h3 => by have y0 := ZZ2.out; have y1 := ZZ9.out; have y2 := ZZ10.out; have y3 := ZZ11.out; have y4 := ZZ18.out; have y5 := ZZ22.out; have y6 := ZZ23.out; have y7 := ZZz.out; have y8 := ZZ30.out; have y9 := ZZ31.out; have y10 := ZZ32.out; have y11 := ZZ40.out; have y12 := ZZ46.out; have y13 := ZZ51.out; omega)
      clear W0_46 X0_46 G0_46
      clear K_49
      have hn_m12 : ¬ ((m12 : Nat) : Int) < 0 := by omega
      have q_52 : w12.cell? ⟨P8, 0, none⟩ = some (.int .i64 s0) := HD_50.out.cell (b := P8) (vs := [.int .i64 s0, .slice a8 n5 cap8]) (i := 0) (by simp) (by simp)
      have q_53 : w12.cell? ⟨P8, 1, none⟩ = some (.slice a8 n5 cap8) := HD_50.out.cell (b := P8) (vs := [.int .i64 s0, .slice a8 n5 cap8]) (i := 1) (by simp) (by simp)
      have q_54 : w12.cell? ⟨P5, 0, none⟩ = some (.int .i64 s0) := HD_50.out.cell (b := P5) (vs := [.int .i64 s0, .slice a5 n5 cap5]) (i := 0) (by simp) (by simp)
      have q_55 : w12.cell? ⟨P5, 1, none⟩ = some (.slice a5 n5 cap5) := HD_50.out.cell (b := P5) (vs := [.int .i64 s0, .slice a5 n5 cap5]) (i := 1) (by simp) (by simp)
      go_wp2_with fail
      refine (eqGraph_any lo8 hi8 lo5 hi5 s0 s0 a8 a5 n5 n5 cap8 cap5 LL LL true _ G0_51.out.toIn W0_51.out.toIn (by have y0 := ZZ2.out; have y1 := ZZ9.out; have y2 := ZZ10.out; have y3 := ZZ11.out; have y4 := ZZ18.out; have y5 := ZZ22.out; have y6 := ZZ23.out; have y7 := ZZz.out; have y8 := ZZ30.out; have y9 := ZZ31.out; have y10 := ZZ32.out; have y11 := ZZ40.out; have y12 := ZZ46.out; have y13 := ZZ51.out; omega) (by have y0 := ZZ2.out; have y1 := ZZ9.out; have y2 := ZZ10.out; have y3 := ZZ11.out; have y4 := ZZ18.out; have y5 := ZZ22.out; have y6 := ZZ23.out; have y7 := ZZz.out; have y8 := ZZ30.out; have y9 := ZZ31.out; have y10 := ZZ32.out; have y11 := ZZ40.out; have y12 := ZZ46.out; have y13 := ZZ51.out; omega) HN5.out HN5.out HM5.out (by simp)).mono ?_
      rintro e w13 ⟨rfl, B_56⟩
      clear q_52 q_53 q_54 q_55
      have HD_57 : Hid (Hold w w13 [(P8, [.int .i64 s0, .slice a8 n5 cap8]), (w6.heap.size, [.int .i64 s0, .slice (some ⟨g6, 0, none⟩) n0 n0]), (P5, [.int .i64 s0, .slice a5 n5 cap5]), (w.heap.size + 1, [.int .i64 x10, .int .u8 x11, .int .i64 x12]), (w.heap.size, [.int .i64 s0, .slice a0 n0 cap0])]) := HD_50.out.below B_56.out
      clear HD_50
      have ZZ58 : Hid (w12.heap.size ≤ w13.heap.size) := B_56.out.size
      have W0_58 : Hid (EdgesOwn lo5 hi5 w13 a5 LL) := W0_51.out.below B_56.out (by have y0 := ZZ2.out; have y1 := ZZ9.out; have y2 := ZZ10.out; have y3 := ZZ11.out; have y4 := ZZ18.out; have y5 := ZZ22.out; have y6 := ZZ23.out; have y7 := ZZz.out; have y8 := ZZ30.out; have y9 := ZZ31.out; have y10 := ZZ32.out; have y11 := ZZ40.out; have y12 := ZZ46.out; have y13 := ZZ51.out; have y14 := ZZ58.out; omega)
      have G0_58 : Hid (EdgesOwn lo8 hi8 w13 a8 LL) := G0_51.out.below B_56.out (by have y0 := ZZ2.out; have y1 := ZZ9.out; have y2 := ZZ10.out; have y3 := ZZ11.out; have y4 := ZZ18.out; have y5 := ZZ22.out; have y6 := ZZ23.out; have y7 := ZZz.out; have y8 := ZZ30.out; have y9 := ZZ31.out; have y10 := ZZ32.out; have y11 := ZZ40.out; have y12 := ZZ46.out; have y13 := ZZ51.out; have y14 := ZZ58.out; omega)
      clear W0_51 G0_51
      clear B_56
      have q_59 : w13.cell? ⟨P8, 0, none⟩ = some (.int .i64 s0) := HD_57.out.cell (b := P8) (vs := [.int .i64 s0, .slice a8 n5 cap8]) (i := 0) (by simp) (by simp)
      have q_60 : w13.cell? ⟨P8, 1, none⟩ = some (.slice a8 n5 cap8) := HD_57.out.cell (b := P8) (vs := [.int .i64 s0, .slice a8 n5 cap8]) (i := 1) (by simp) (by simp)
      go_wp2_with fail
      refine (markGraph_any lo8 hi8 s0 a8 n5 cap8 1 LL _ G0_58.out (by have y0 := ZZ2.out; have y1 := ZZ9.out; have y2 := ZZ10.out; have y3 := ZZ11.out; have y4 := ZZ18.out; have y5 := ZZ22.out; have y6 := ZZ23.out; have y7 := ZZz.out; have y8 := ZZ30.out; have y9 := ZZ31.out; have y10 := ZZ32.out; have y11 := ZZ40.out; have y12 := ZZ46.out; have y13 := ZZ51.out; have y14 := ZZ58.out; omega) HN5.out HM5.out (by omega)).mono ?_
      rintro e w14 ⟨m14, rfl, HM_m14, X_61, K_61⟩
      clear q_59 q_60
      have HD_62 : Hid (Hold w w14 [(P8, [.int .i64 s0, .slice a8 n5 cap8]), (w6.heap.size, [.int .i64 s0, .slice (some ⟨g6, 0, none⟩) n0 n0]), (P5, [.int .i64 s0, .slice a5 n5 cap5]), (w.heap.size + 1, [.int .i64 x10, .int .u8 x11, .int .i64 x12]), (w.heap.size, [.int .i64 s0, .slice a0 n0 cap0])]) := HD_57.out.kept K_61.out (by intro x hx; simp only [List.mem_cons, List.not_mem_nil, or_false] at hx; have y0 := ZZ2.out; have y1 := ZZ9.out; have y2 := ZZ10.out; have y3 := ZZ11.out; have y4 := ZZ18.out; have y5 := ZZ22.out; have y6 := ZZ23.out; have y7 := ZZz.out; have y8 := ZZ30.out; have y9 := ZZ31.out; have y10 := ZZ32.out; have y11 := ZZ40.out; have y12 := ZZ46.out; have y13 := ZZ51.out; have y14 := ZZ58.out; have y15 := OFF_P8.out; rcases hx with rfl | rfl | rfl | rfl | rfl <;> dsimp only <;> omega) (fun k hk => by have y0 := ZZ2.out; have y1 := ZZ9.out; have y2 := ZZ10.out; have y3 := ZZ11.out; have y4 := ZZ18.out; have y5 := ZZ22.out; have y6 := ZZ23.out; have y7 := ZZz.out; have y8 := ZZ30.out; have y9 := ZZ31.out; have y10 := ZZ32.out; have y11 := ZZ40.out; have y12 := ZZ46.out; have y13 := ZZ51.out; have y14 := ZZ58.out; have y15 := OFF_P8.out; omega)
      clear HD_57
      have ZZ63 : Hid (w13.heap.size ≤ w14.heap.size) := K_61.out.size
      have W0_63 : Hid (EdgesOwn lo5 hi5 w14 a5 LL) := W0_58.out.kept K_61.out (fun c h1 h2 h3 => by have y0 := ZZ2.out; have y1 := ZZ9.out; have y2 := ZZ10.out; have y3 := ZZ11.out; have y4 := ZZ18.out; have y5 := ZZ22.out; have y6 := ZZ23.out; have y7 := ZZz.out; have y8 := ZZ30.out; have y9 := ZZ31.out; have y10 := ZZ32.out; have y11 := ZZ40.out; have y12 := ZZ46.out; have y13 := ZZ51.out; have y14 := ZZ58.out; have y15 := ZZ63.out; omega)
      clear W0_58 G0_58
      clear K_61
      have G0_64 : Hid (EdgesOwn lo8 hi8 w14 a8 (marksE 1 n5)) := X_61.out
      clear X_61
      have q_65 : w14.cell? ⟨P8, 0, none⟩ = some (.int .i64 s0) := HD_62.out.cell (b := P8) (vs := [.int .i64 s0, .slice a8 n5 cap8]) (i := 0) (by simp) (by simp)
      have q_66 : w14.cell? ⟨P8, 1, none⟩ = some (.slice a8 n5 cap8) := HD_62.out.cell (b := P8) (vs := [.int .i64 s0, .slice a8 n5 cap8]) (i := 1) (by simp) (by simp)
      go_wp2_with fail
      refine (heldGraph_any lo8 hi8 s0 a8 n5 cap8 1 _ G0_64.out.toIn (by have y0 := ZZ2.out; have y1 := ZZ9.out; have y2 := ZZ10.out; have y3 := ZZ11.out; have y4 := ZZ18.out; have y5 := ZZ22.out; have y6 := ZZ23.out; have y7 := ZZz.out; have y8 := ZZ30.out; have y9 := ZZ31.out; have y10 := ZZ32.out; have y11 := ZZ40.out; have y12 := ZZ46.out; have y13 := ZZ51.out; have y14 := ZZ58.out; have y15 := ZZ63.out; omega) HM5.out (by omega)).mono ?_
      rintro e w15 ⟨m15, rfl, HM_m15, B_67⟩
      clear q_65 q_66
      have HD_68 : Hid (Hold w w15 [(P8, [.int .i64 s0, .slice a8 n5 cap8]), (w6.heap.size, [.int .i64 s0, .slice (some ⟨g6, 0, none⟩) n0 n0]), (P5, [.int .i64 s0, .slice a5 n5 cap5]), (w.heap.size + 1, [.int .i64 x10, .int .u8 x11, .int .i64 x12]), (w.heap.size, [.int .i64 s0, .slice a0 n0 cap0])]) := HD_62.out.below B_67.out
      clear HD_62
      have ZZ69 : Hid (w14.heap.size ≤ w15.heap.size) := B_67.out.size
      have W0_69 : Hid (EdgesOwn lo5 hi5 w15 a5 LL) := W0_63.out.below B_67.out (by have y0 := ZZ2.out; have y1 := ZZ9.out; have y2 := ZZ10.out; have y3 := ZZ11.out; have y4 := ZZ18.out; have y5 := ZZ22.out; have y6 := ZZ23.out; have y7 := ZZz.out; have y8 := ZZ30.out; have y9 := ZZ31.out; have y10 := ZZ32.out; have y11 := ZZ40.out; have y12 := ZZ46.out; have y13 := ZZ51.out; have y14 := ZZ58.out; have y15 := ZZ63.out; have y16 := ZZ69.out; omega)
      have G0_69 : Hid (EdgesOwn lo8 hi8 w15 a8 (marksE 1 n5)) := G0_64.out.below B_67.out (by have y0 := ZZ2.out; have y1 := ZZ9.out; have y2 := ZZ10.out; have y3 := ZZ11.out; have y4 := ZZ18.out; have y5 := ZZ22.out; have y6 := ZZ23.out; have y7 := ZZz.out; have y8 := ZZ30.out; have y9 := ZZ31.out; have y10 := ZZ32.out; have y11 := ZZ40.out; have y12 := ZZ46.out; have y13 := ZZ51.out; have y14 := ZZ58.out; have y15 := ZZ63.out; have y16 := ZZ69.out; omega)
      clear W0_63 G0_64
      clear B_67
      obtain rfl : m14 = m15 := by rw [HM_m15.out, HM_m14.out]
      clear HM_m15
      have hn_m15 : ¬ ((m14 : Nat) : Int) < 0 := by omega
      have HKS : Hid (∀ w', Below w15.heap.size w15 w' → (w'.cell? ⟨w.heap.size, 0, none⟩ = some (.int .i64 s0) ∧ w'.cell? ⟨w.heap.size, 1, none⟩ = some (.slice a0 n0 cap0) ∧ w'.cell? ⟨w.heap.size + 1, 0, none⟩ = some (.int .i64 x10) ∧ w'.cell? ⟨w.heap.size + 1, 1, none⟩ = some (.int .u8 x11) ∧ w'.cell? ⟨w.heap.size + 1, 2, none⟩ = some (.int .i64 x12))) := fun w' h => ⟨(HD_68.out.below h).cell (b := w.heap.size) (vs := [.int .i64 s0, .slice a0 n0 cap0]) (i := 0) (by simp) (by simp), (HD_68.out.below h).cell (b := w.heap.size) (vs := [.int .i64 s0, .slice a0 n0 cap0]) (i := 1) (by simp) (by simp), (HD_68.out.below h).cell (b := w.heap.size + 1) (vs := [.int .i64 x10, .int .u8 x11, .int .i64 x12]) (i := 0) (by simp) (by simp), (HD_68.out.below h).cell (b := w.heap.size + 1) (vs := [.int .i64 x10, .int .u8 x11, .int .i64 x12]) (i := 1) (by simp) (by simp), (HD_68.out.below h).cell (b := w.heap.size + 1) (vs := [.int .i64 x10, .int .u8 x11, .int .i64 x12]) (i := 2) (by simp) (by simp)⟩
      have HTG : Hid (∀ w0, Below w15.heap.size w15 w0 → Calls Try.prog 11 #[gv s0 a0 n0 cap0] w0 fun e w' => ∃ g : Nat, e = .returned (gv s0 (some ⟨g, 0, none⟩) n0 n0) ∧ Hid (EdgesIn w15.heap.size w'.heap.size w' (some ⟨g, 0, none⟩) l0) ∧ Hid (Below w0.heap.size w0 w')) := fun w0 h =>
        (toGraph_any 0 w.heap.size s0 a0 n0 cap0 l0 w0 (HR0.out.below (HD_68.out.below h).bel (Nat.le_refl _)) (HD_68.out.below h).bel.size HL0.out HM.out).mono fun _ w' ⟨g, h1, h2, h4⟩ => ⟨g, h1, h2.out.toIn.wide h.size (Nat.le_refl _), h4⟩
      have q_70 : w15.cell? ⟨w.heap.size, 0, none⟩ = some (.int .i64 s0) := HD_68.out.cell (b := w.heap.size) (vs := [.int .i64 s0, .slice a0 n0 cap0]) (i := 0) (by simp) (by simp)
      have q_71 : w15.cell? ⟨w.heap.size, 1, none⟩ = some (.slice a0 n0 cap0) := HD_68.out.cell (b := w.heap.size) (vs := [.int .i64 s0, .slice a0 n0 cap0]) (i := 1) (by simp) (by simp)
      have q_72 : w15.cell? ⟨w.heap.size + 1, 0, none⟩ = some (.int .i64 x10) := HD_68.out.cell (b := w.heap.size + 1) (vs := [.int .i64 x10, .int .u8 x11, .int .i64 x12]) (i := 0) (by simp) (by simp)
      have q_73 : w15.cell? ⟨w.heap.size + 1, 1, none⟩ = some (.int .u8 x11) := HD_68.out.cell (b := w.heap.size + 1) (vs := [.int .i64 x10, .int .u8 x11, .int .i64 x12]) (i := 1) (by simp) (by simp)
      have q_74 : w15.cell? ⟨w.heap.size + 1, 2, none⟩ = some (.int .i64 x12) := HD_68.out.cell (b := w.heap.size + 1) (vs := [.int .i64 x10, .int .u8 x11, .int .i64 x12]) (i := 2) (by simp) (by simp)
      go_upto_region 24 with fail
      go_cut [14, 15] (fun p ok wc => ∃ (P : Nat) (a : Option Addr) (n cap lo hi : Nat), p = .pointer (some ⟨P, 0, none⟩) ∧ ok = .bool OK ∧ Hid (LL.length = n) ∧ Hid (GBox w15 wc P s0 a n cap lo hi LL))
      case first =>
        refine wp_region_held_drew (S := fun w' => w'.cell? ⟨w.heap.size, 0, none⟩ = some (.int .i64 s0) ∧ w'.cell? ⟨w.heap.size, 1, none⟩ = some (.slice a0 n0 cap0) ∧ w'.cell? ⟨w.heap.size + 1, 0, none⟩ = some (.int .i64 x10) ∧ w'.cell? ⟨w.heap.size + 1, 1, none⟩ = some (.int .u8 x11) ∧ w'.cell? ⟨w.heap.size + 1, 2, none⟩ = some (.int .i64 x12)) (by kernel_rfl) ⟨q_70, q_71, q_72, q_73, q_74⟩ (fun hHeld => ?_)
        clear q_70 q_71 q_72 q_73 q_74
        refine wpAnyH_take (i := 0) (oi := { dst := some 80, op := Go.Op.load 24 (Go.Operand.tmp 2), type := 24, pos := "exact.go:4619", after := #[], guard := none }) (v := ?_) rfl (by kernel_rfl) (by kernel_rfl) (by kernel_rfl) (fun _ _ _ h => h) (Or.inl ⟨by kernel_rfl, ?_⟩) (by assumption) ?_
        rotate_left
        · intro w hSw; (try dsimp only at hSw); go_simp; try with_reducible rfl
        simp only [Act.put, List.setIfInBounds_toArray, List.set_cons_zero, List.set_cons_succ]
        refine wpAnyH_take (i := 2) (oi := { dst := some 82, op := Go.Op.load 34 (Go.Operand.tmp 3), type := 34, pos := "exact.go:4619", after := #[], guard := none }) (v := ?_) rfl (by kernel_rfl) (by kernel_rfl) (by kernel_rfl) (fun _ _ _ h => h) (Or.inl ⟨by kernel_rfl, ?_⟩) (by assumption) ?_
        rotate_left
        · intro w hSw; (try dsimp only at hSw); go_simp; try with_reducible rfl
        simp only [Act.put, List.setIfInBounds_toArray, List.set_cons_zero, List.set_cons_succ]
        refine wpAnyH_ready (rs := [1, 8]) (by kernel_rfl) (by simp) ?_
        refine AllReadyH.cons (o := { dst := some 81, op := Go.Op.call { callee := Go.Callee.value (Go.Operand.func 11), args := #[Go.Operand.tmp 80], argTypes := #[24] }, type := 29, pos := "exact.go:4619", after := #[{ on := 0, ground := Go.Ground.data }], guard := none }) rfl (fun K hK => ?_) ?_
        · go_simp
          go_wp2_with (go_at_call 11; refine (HTG.out _ ((Below.refl w15.heap.size w15).drew)).mono ?_; rintro e wq1 ⟨g9, rfl, HX1, C1⟩)
          have HB1 : Hid (Below w15.heap.size w15 wq1) := ((Below.refl w15.heap.size w15).drew).trans (C1.out.mono ((Below.refl w15.heap.size w15).drew).size)
          have hk1 := HKS.out _ HB1.out
          refine hK.out _ _ hk1 (fun hHeld => ?_)
          clear hK K
          try simp only [Act.put, List.setIfInBounds_toArray, List.set_cons_zero, List.set_cons_succ]
          refine wpAnyH_ready (rs := [3, 8]) (by kernel_rfl) (by simp) ?_
          refine AllReadyH.cons (o := { dst := some 83, op := Go.Op.call { callee := Go.Callee.value (Go.Operand.func 15), args := #[Go.Operand.tmp 82], argTypes := #[34] }, type := 37, pos := "exact.go:4619", after := #[{ on := 2, ground := Go.Ground.data }, { on := 1, ground := Go.Ground.chain }], guard := none }) rfl (fun K hK => ?_) ?_
          · go_simp
            go_wp2_with (go_at_call 15; refine (toEdge_any (x10, x11, x12) _).mono ?_; rintro e wq2 ⟨rfl, C2⟩)
            have HX2 : Hid (EdgesIn w15.heap.size wq1.heap.size wq2 (some ⟨g9, 0, none⟩) l0) := HX1.out.below C2.out (Nat.le_refl _)
            have HY2 : Hid (wq1.heap.size ≤ wq2.heap.size) := Nat.le_trans (Nat.le_refl _) C2.out.size
            have HB2 : Hid (Below w15.heap.size w15 wq2) := (HB1.out).trans (C2.out.mono (HB1.out).size)
            have hk2 := HKS.out _ HB2.out
            refine hK.out _ _ hk2 (fun hHeld => ?_)
            clear hK K
            try simp only [Act.put, List.setIfInBounds_toArray, List.set_cons_zero, List.set_cons_succ]
            refine wpAnyH_ready (rs := [4, 8]) (by kernel_rfl) (by simp) ?_
            refine AllReadyH.cons (o := { dst := some 84, op := Go.Op.call { callee := Go.Callee.value (Go.Operand.func 16), args := #[Go.Operand.tmp 81, Go.Operand.tmp 83], argTypes := #[29, 37] }, type := 35, pos := "exact.go:4619", after := #[{ on := 1, ground := Go.Ground.data }, { on := 3, ground := Go.Ground.data }, { on := 3, ground := Go.Ground.chain }], guard := none }) rfl (fun K hK => ?_) ?_
            · go_simp
              go_wp2_with (go_at_call 16; refine (HADDI.out _ _ _ _ HX2.out HY2.out).mono ?_; rintro e wq3 ⟨a9, n9, cap9, rfl, HN9, HO9, C3⟩)
              have HB3 : Hid (Below w15.heap.size w15 wq3) := (HB2.out).trans (C3.out.mono (HB2.out).size)
              have hk3 := HKS.out _ HB3.out
              refine hK.out _ _ hk3 (fun hHeld => ?_)
              clear hK K
              try simp only [Act.put, List.setIfInBounds_toArray, List.set_cons_zero, List.set_cons_succ]
              refine wpAnyH_take (i := 5) (oi := { dst := some 79, op := Go.Op.move (Go.Operand.tmp 84), type := 35, pos := "exact.go:4619", after := #[{ on := 4, ground := Go.Ground.data }], guard := none }) (v := ?_) rfl (by kernel_rfl) (by kernel_rfl) (by kernel_rfl) (fun _ _ _ h => h) (Or.inl ⟨by kernel_rfl, ?_⟩) (by assumption) ?_
              rotate_left
              · intro w hSw; (try dsimp only at hSw); go_simp; try with_reducible rfl
              simp only [Act.put, List.setIfInBounds_toArray, List.set_cons_zero, List.set_cons_succ]
              refine wpAnyH_take (i := 6) (oi := { dst := some 85, op := Go.Op.extract (Go.Operand.tmp 79) 0, type := 29, pos := "exact.go:4619", after := #[{ on := 5, ground := Go.Ground.data }], guard := none }) (v := ?_) rfl (by kernel_rfl) (by kernel_rfl) (by kernel_rfl) (fun _ _ _ h => h) (Or.inl ⟨by kernel_rfl, ?_⟩) (by assumption) ?_
              rotate_left
              · intro w hSw; (try dsimp only at hSw); go_simp; try with_reducible rfl
              simp only [Act.put, List.setIfInBounds_toArray, List.set_cons_zero, List.set_cons_succ]
              refine wpAnyH_take (i := 7) (oi := { dst := some 86, op := Go.Op.extract (Go.Operand.tmp 79) 1, type := 4, pos := "exact.go:4619", after := #[{ on := 5, ground := Go.Ground.data }, { on := 9, ground := Go.Ground.gcOnly Go.Departure.lateStores }], guard := none }) (v := ?_) rfl (by kernel_rfl) (by kernel_rfl) (by kernel_rfl) (fun _ _ _ h => h) (Or.inl ⟨by kernel_rfl, ?_⟩) (by assumption) ?_
              rotate_left
              · intro w hSw; (try dsimp only at hSw); go_simp; try with_reducible rfl
              simp only [Act.put, List.setIfInBounds_toArray, List.set_cons_zero, List.set_cons_succ]
              refine wpAnyH_ready (rs := [8]) (by kernel_rfl) (by simp) ?_
              refine AllReadyH.cons (o := { dst := some 14, op := Go.Op.alloc 29, type := 0, pos := "exact.go:4619", after := #[], guard := none }) rfl (fun K hK => ?_) ?_
              · go_simp
                have hk4 := HKS.out (wq3.alloc (.cells #[.int .i64 0, .slice none 0 0] 29)) ((HB3.out).alloc (HB3.out).size _)
                refine hK.out _ _ hk4 (fun hHeld => ?_)
                clear hK K
                try simp only [Act.put, List.setIfInBounds_toArray, List.set_cons_zero, List.set_cons_succ]
                refine wpAnyH_ready (rs := [9]) (by kernel_rfl) (by simp) ?_
                refine AllReadyH.cons (o := { dst := none, op := Go.Op.store 29 (Go.Operand.tmp 14) (Go.Operand.tmp 85), type := 0, pos := "exact.go:4619", after := #[{ on := 8, ground := Go.Ground.data }, { on := 6, ground := Go.Ground.data }, { on := 4, ground := Go.Ground.chain }, { on := 0, ground := Go.Ground.phase }, { on := 1, ground := Go.Ground.phase }, { on := 2, ground := Go.Ground.phase }, { on := 3, ground := Go.Ground.phase }, { on := 4, ground := Go.Ground.phase }, { on := 5, ground := Go.Ground.phase }, { on := 6, ground := Go.Ground.phase }, { on := 7, ground := Go.Ground.textOnly Go.Departure.lateStores }, { on := 8, ground := Go.Ground.phase }], guard := none }) rfl (fun K hK => ?_) ?_
                · go_simp
                  have GB : Hid (GBox w15 (wq3.alloc (.cells #[.int .i64 s0, .slice a9 n9 cap9] 29)) wq3.heap.size s0 a9 n9 cap9 wq2.heap.size wq3.heap.size LL) := GBox.fresh (HB3.out) HO9.out ((HB2.out).size) 29
                  have hk5 := HKS.out _ GB.out.bel
                  refine hK.out _ _ hk5 (fun hHeld => ?_)
                  clear hK K
                  try simp only [Act.put, List.setIfInBounds_toArray, List.set_cons_zero, List.set_cons_succ]
                  refine wpAnyH_take (i := 10) (oi := { dst := some 15, op := Go.Op.assign (Go.Operand.tmp 86), type := 4, pos := "exact.go:4619", after := #[{ on := 7, ground := Go.Ground.data }, { on := 9, ground := Go.Ground.chain }, { on := 0, ground := Go.Ground.phase }, { on := 1, ground := Go.Ground.phase }, { on := 2, ground := Go.Ground.phase }, { on := 3, ground := Go.Ground.phase }, { on := 4, ground := Go.Ground.phase }, { on := 5, ground := Go.Ground.phase }, { on := 6, ground := Go.Ground.phase }, { on := 7, ground := Go.Ground.phase }, { on := 8, ground := Go.Ground.phase }, { on := 9, ground := Go.Ground.phase }], guard := none }) (v := ?_) rfl (by kernel_rfl) (by kernel_rfl) (by kernel_rfl) (fun _ _ _ h => h) (Or.inl ⟨by kernel_rfl, ?_⟩) (by assumption) ?_
                  rotate_left
                  · intro w hSw; (try dsimp only at hSw); go_simp; try with_reducible rfl
                  simp only [Act.put, List.setIfInBounds_toArray, List.set_cons_zero, List.set_cons_succ]
                  refine wpAnyH_done (by kernel_rfl) ?_ _
                  clear hHeld
                  go_wp2_with fail
                  go_meet
                  case rel => exact ⟨_, a9, n9, cap9, _, _, rfl, rfl, HN9, GB⟩
                exact AllReadyH.nil
              exact AllReadyH.nil
            refine AllReadyH.cons (o := { dst := some 14, op := Go.Op.alloc 29, type := 0, pos := "exact.go:4619", after := #[], guard := none }) rfl (fun K hK => ?_) ?_
            · go_simp
              have HB3 : Hid (Below w15.heap.size w15 (wq2.alloc (.cells #[.int .i64 0, .slice none 0 0] 29))) := (HB2.out).alloc (HB2.out).size _
              have hk3 := HKS.out _ HB3.out
              have HP3 : Hid (Blk (wq2.alloc (.cells #[.int .i64 0, .slice none 0 0] 29)) wq2.heap.size 2 (fun i => if i = 0 then .int .i64 0 else .slice none 0 0)) := blk_two wq2 _ rfl _ _ _
              have HX3 : Hid (EdgesIn w15.heap.size wq1.heap.size (wq2.alloc (.cells #[.int .i64 0, .slice none 0 0] 29)) (some ⟨g9, 0, none⟩) l0) := HX2.out.below (below1 wq2 _) HY2.out
              have HY3 : Hid (wq1.heap.size ≤ (wq2.alloc (.cells #[.int .i64 0, .slice none 0 0] 29)).heap.size) := Nat.le_trans HY2.out (by simp)
              refine hK.out _ _ hk3 (fun hHeld => ?_)
              clear hK K
              try simp only [Act.put, List.setIfInBounds_toArray, List.set_cons_zero, List.set_cons_succ]
              refine wpAnyH_ready (rs := [4]) (by kernel_rfl) (by simp) ?_
              refine AllReadyH.cons (o := { dst := some 84, op := Go.Op.call { callee := Go.Callee.value (Go.Operand.func 16), args := #[Go.Operand.tmp 81, Go.Operand.tmp 83], argTypes := #[29, 37] }, type := 35, pos := "exact.go:4619", after := #[{ on := 1, ground := Go.Ground.data }, { on := 3, ground := Go.Ground.data }, { on := 3, ground := Go.Ground.chain }], guard := none }) rfl (fun K hK => ?_) ?_
              · go_simp
                go_wp2_with (go_at_call 16; refine (HADDI.out _ _ _ _ HX3.out HY3.out).mono ?_; rintro e wq4 ⟨a9, n9, cap9, rfl, HN9, HO9, C4⟩)
                have HB4 : Hid (Below w15.heap.size w15 wq4) := (HB3.out).trans (C4.out.mono (HB3.out).size)
                have hk4 := HKS.out _ HB4.out
                have HP4 : Hid (Blk wq4 wq2.heap.size 2 (fun i => if i = 0 then .int .i64 0 else .slice none 0 0)) := HP3.out.of_block (C4.out.block _ HP3.out.lt)
                refine hK.out _ _ hk4 (fun hHeld => ?_)
                clear hK K
                try simp only [Act.put, List.setIfInBounds_toArray, List.set_cons_zero, List.set_cons_succ]
                refine wpAnyH_take (i := 5) (oi := { dst := some 79, op := Go.Op.move (Go.Operand.tmp 84), type := 35, pos := "exact.go:4619", after := #[{ on := 4, ground := Go.Ground.data }], guard := none }) (v := ?_) rfl (by kernel_rfl) (by kernel_rfl) (by kernel_rfl) (fun _ _ _ h => h) (Or.inl ⟨by kernel_rfl, ?_⟩) (by assumption) ?_
                rotate_left
                · intro w hSw; (try dsimp only at hSw); go_simp; try with_reducible rfl
                simp only [Act.put, List.setIfInBounds_toArray, List.set_cons_zero, List.set_cons_succ]
                refine wpAnyH_take (i := 6) (oi := { dst := some 85, op := Go.Op.extract (Go.Operand.tmp 79) 0, type := 29, pos := "exact.go:4619", after := #[{ on := 5, ground := Go.Ground.data }], guard := none }) (v := ?_) rfl (by kernel_rfl) (by kernel_rfl) (by kernel_rfl) (fun _ _ _ h => h) (Or.inl ⟨by kernel_rfl, ?_⟩) (by assumption) ?_
                rotate_left
                · intro w hSw; (try dsimp only at hSw); go_simp; try with_reducible rfl
                simp only [Act.put, List.setIfInBounds_toArray, List.set_cons_zero, List.set_cons_succ]
                refine wpAnyH_take (i := 7) (oi := { dst := some 86, op := Go.Op.extract (Go.Operand.tmp 79) 1, type := 4, pos := "exact.go:4619", after := #[{ on := 5, ground := Go.Ground.data }, { on := 9, ground := Go.Ground.gcOnly Go.Departure.lateStores }], guard := none }) (v := ?_) rfl (by kernel_rfl) (by kernel_rfl) (by kernel_rfl) (fun _ _ _ h => h) (Or.inl ⟨by kernel_rfl, ?_⟩) (by assumption) ?_
                rotate_left
                · intro w hSw; (try dsimp only at hSw); go_simp; try with_reducible rfl
                simp only [Act.put, List.setIfInBounds_toArray, List.set_cons_zero, List.set_cons_succ]
                refine wpAnyH_ready (rs := [9]) (by kernel_rfl) (by simp) ?_
                refine AllReadyH.cons (o := { dst := none, op := Go.Op.store 29 (Go.Operand.tmp 14) (Go.Operand.tmp 85), type := 0, pos := "exact.go:4619", after := #[{ on := 8, ground := Go.Ground.data }, { on := 6, ground := Go.Ground.data }, { on := 4, ground := Go.Ground.chain }, { on := 0, ground := Go.Ground.phase }, { on := 1, ground := Go.Ground.phase }, { on := 2, ground := Go.Ground.phase }, { on := 3, ground := Go.Ground.phase }, { on := 4, ground := Go.Ground.phase }, { on := 5, ground := Go.Ground.phase }, { on := 6, ground := Go.Ground.phase }, { on := 7, ground := Go.Ground.textOnly Go.Departure.lateStores }, { on := 8, ground := Go.Ground.phase }], guard := none }) rfl (fun K hK => ?_) ?_
                · obtain ⟨z0, z1⟩ := blk_pair_cells HP4.out
                  have zf0 := HP4.out.frozen 0
                  have zf1 := HP4.out.frozen 1
                  go_simp
                  have GB : Hid (GBox w15 ((wq4.setCell ⟨wq2.heap.size, 0, none⟩ (.int .i64 s0)).setCell ⟨wq2.heap.size, 1, none⟩ (.slice a9 n9 cap9)) wq2.heap.size s0 a9 n9 cap9 (wq2.alloc (.cells #[.int .i64 0, .slice none 0 0] 29)).heap.size wq4.heap.size LL) := GBox.stored (HB4.out) HP4.out HO9.out ((HB2.out).size) HP3.out.lt
                  have hk5 := HKS.out _ GB.out.bel
                  refine hK.out _ _ hk5 (fun hHeld => ?_)
                  clear hK K
                  try simp only [Act.put, List.setIfInBounds_toArray, List.set_cons_zero, List.set_cons_succ]
                  refine wpAnyH_take (i := 10) (oi := { dst := some 15, op := Go.Op.assign (Go.Operand.tmp 86), type := 4, pos := "exact.go:4619", after := #[{ on := 7, ground := Go.Ground.data }, { on := 9, ground := Go.Ground.chain }, { on := 0, ground := Go.Ground.phase }, { on := 1, ground := Go.Ground.phase }, { on := 2, ground := Go.Ground.phase }, { on := 3, ground := Go.Ground.phase }, { on := 4, ground := Go.Ground.phase }, { on := 5, ground := Go.Ground.phase }, { on := 6, ground := Go.Ground.phase }, { on := 7, ground := Go.Ground.phase }, { on := 8, ground := Go.Ground.phase }, { on := 9, ground := Go.Ground.phase }], guard := none }) (v := ?_) rfl (by kernel_rfl) (by kernel_rfl) (by kernel_rfl) (fun _ _ _ h => h) (Or.inl ⟨by kernel_rfl, ?_⟩) (by assumption) ?_
                  rotate_left
                  · intro w hSw; (try dsimp only at hSw); go_simp; try with_reducible rfl
                  simp only [Act.put, List.setIfInBounds_toArray, List.set_cons_zero, List.set_cons_succ]
                  refine wpAnyH_done (by kernel_rfl) ?_ _
                  clear hHeld
                  go_wp2_with fail
                  go_meet
                  case rel => exact ⟨_, a9, n9, cap9, _, _, rfl, rfl, HN9, GB⟩
                exact AllReadyH.nil
              exact AllReadyH.nil
            exact AllReadyH.nil
          refine AllReadyH.cons (o := { dst := some 14, op := Go.Op.alloc 29, type := 0, pos := "exact.go:4619", after := #[], guard := none }) rfl (fun K hK => ?_) ?_
          · go_simp
            have HB2 : Hid (Below w15.heap.size w15 (wq1.alloc (.cells #[.int .i64 0, .slice none 0 0] 29))) := (HB1.out).alloc (HB1.out).size _
            have hk2 := HKS.out _ HB2.out
            have HP2 : Hid (Blk (wq1.alloc (.cells #[.int .i64 0, .slice none 0 0] 29)) wq1.heap.size 2 (fun i => if i = 0 then .int .i64 0 else .slice none 0 0)) := blk_two wq1 _ rfl _ _ _
            have HX2 : Hid (EdgesIn w15.heap.size wq1.heap.size (wq1.alloc (.cells #[.int .i64 0, .slice none 0 0] 29)) (some ⟨g9, 0, none⟩) l0) := HX1.out.below (below1 wq1 _) (Nat.le_refl _)
            have HY2 : Hid (wq1.heap.size ≤ (wq1.alloc (.cells #[.int .i64 0, .slice none 0 0] 29)).heap.size) := Nat.le_trans (Nat.le_refl _) (by simp)
            refine hK.out _ _ hk2 (fun hHeld => ?_)
            clear hK K
            try simp only [Act.put, List.setIfInBounds_toArray, List.set_cons_zero, List.set_cons_succ]
            refine wpAnyH_ready (rs := [3]) (by kernel_rfl) (by simp) ?_
            refine AllReadyH.cons (o := { dst := some 83, op := Go.Op.call { callee := Go.Callee.value (Go.Operand.func 15), args := #[Go.Operand.tmp 82], argTypes := #[34] }, type := 37, pos := "exact.go:4619", after := #[{ on := 2, ground := Go.Ground.data }, { on := 1, ground := Go.Ground.chain }], guard := none }) rfl (fun K hK => ?_) ?_
            · go_simp
              go_wp2_with (go_at_call 15; refine (toEdge_any (x10, x11, x12) _).mono ?_; rintro e wq3 ⟨rfl, C3⟩)
              have HX3 : Hid (EdgesIn w15.heap.size wq1.heap.size wq3 (some ⟨g9, 0, none⟩) l0) := HX2.out.below C3.out HY2.out
              have HY3 : Hid (wq1.heap.size ≤ wq3.heap.size) := Nat.le_trans HY2.out C3.out.size
              have HB3 : Hid (Below w15.heap.size w15 wq3) := (HB2.out).trans (C3.out.mono (HB2.out).size)
              have hk3 := HKS.out _ HB3.out
              have HP3 : Hid (Blk wq3 wq1.heap.size 2 (fun i => if i = 0 then .int .i64 0 else .slice none 0 0)) := HP2.out.of_block (C3.out.block _ HP2.out.lt)
              refine hK.out _ _ hk3 (fun hHeld => ?_)
              clear hK K
              try simp only [Act.put, List.setIfInBounds_toArray, List.set_cons_zero, List.set_cons_succ]
              refine wpAnyH_ready (rs := [4]) (by kernel_rfl) (by simp) ?_
              refine AllReadyH.cons (o := { dst := some 84, op := Go.Op.call { callee := Go.Callee.value (Go.Operand.func 16), args := #[Go.Operand.tmp 81, Go.Operand.tmp 83], argTypes := #[29, 37] }, type := 35, pos := "exact.go:4619", after := #[{ on := 1, ground := Go.Ground.data }, { on := 3, ground := Go.Ground.data }, { on := 3, ground := Go.Ground.chain }], guard := none }) rfl (fun K hK => ?_) ?_
              · go_simp
                go_wp2_with (go_at_call 16; refine (HADDI.out _ _ _ _ HX3.out HY3.out).mono ?_; rintro e wq4 ⟨a9, n9, cap9, rfl, HN9, HO9, C4⟩)
                have HB4 : Hid (Below w15.heap.size w15 wq4) := (HB3.out).trans (C4.out.mono (HB3.out).size)
                have hk4 := HKS.out _ HB4.out
                have HP4 : Hid (Blk wq4 wq1.heap.size 2 (fun i => if i = 0 then .int .i64 0 else .slice none 0 0)) := HP3.out.of_block (C4.out.block _ HP3.out.lt)
                refine hK.out _ _ hk4 (fun hHeld => ?_)
                clear hK K
                try simp only [Act.put, List.setIfInBounds_toArray, List.set_cons_zero, List.set_cons_succ]
                refine wpAnyH_take (i := 5) (oi := { dst := some 79, op := Go.Op.move (Go.Operand.tmp 84), type := 35, pos := "exact.go:4619", after := #[{ on := 4, ground := Go.Ground.data }], guard := none }) (v := ?_) rfl (by kernel_rfl) (by kernel_rfl) (by kernel_rfl) (fun _ _ _ h => h) (Or.inl ⟨by kernel_rfl, ?_⟩) (by assumption) ?_
                rotate_left
                · intro w hSw; (try dsimp only at hSw); go_simp; try with_reducible rfl
                simp only [Act.put, List.setIfInBounds_toArray, List.set_cons_zero, List.set_cons_succ]
                refine wpAnyH_take (i := 6) (oi := { dst := some 85, op := Go.Op.extract (Go.Operand.tmp 79) 0, type := 29, pos := "exact.go:4619", after := #[{ on := 5, ground := Go.Ground.data }], guard := none }) (v := ?_) rfl (by kernel_rfl) (by kernel_rfl) (by kernel_rfl) (fun _ _ _ h => h) (Or.inl ⟨by kernel_rfl, ?_⟩) (by assumption) ?_
                rotate_left
                · intro w hSw; (try dsimp only at hSw); go_simp; try with_reducible rfl
                simp only [Act.put, List.setIfInBounds_toArray, List.set_cons_zero, List.set_cons_succ]
                refine wpAnyH_take (i := 7) (oi := { dst := some 86, op := Go.Op.extract (Go.Operand.tmp 79) 1, type := 4, pos := "exact.go:4619", after := #[{ on := 5, ground := Go.Ground.data }, { on := 9, ground := Go.Ground.gcOnly Go.Departure.lateStores }], guard := none }) (v := ?_) rfl (by kernel_rfl) (by kernel_rfl) (by kernel_rfl) (fun _ _ _ h => h) (Or.inl ⟨by kernel_rfl, ?_⟩) (by assumption) ?_
                rotate_left
                · intro w hSw; (try dsimp only at hSw); go_simp; try with_reducible rfl
                simp only [Act.put, List.setIfInBounds_toArray, List.set_cons_zero, List.set_cons_succ]
                refine wpAnyH_ready (rs := [9]) (by kernel_rfl) (by simp) ?_
                refine AllReadyH.cons (o := { dst := none, op := Go.Op.store 29 (Go.Operand.tmp 14) (Go.Operand.tmp 85), type := 0, pos := "exact.go:4619", after := #[{ on := 8, ground := Go.Ground.data }, { on := 6, ground := Go.Ground.data }, { on := 4, ground := Go.Ground.chain }, { on := 0, ground := Go.Ground.phase }, { on := 1, ground := Go.Ground.phase }, { on := 2, ground := Go.Ground.phase }, { on := 3, ground := Go.Ground.phase }, { on := 4, ground := Go.Ground.phase }, { on := 5, ground := Go.Ground.phase }, { on := 6, ground := Go.Ground.phase }, { on := 7, ground := Go.Ground.textOnly Go.Departure.lateStores }, { on := 8, ground := Go.Ground.phase }], guard := none }) rfl (fun K hK => ?_) ?_
                · obtain ⟨z0, z1⟩ := blk_pair_cells HP4.out
                  have zf0 := HP4.out.frozen 0
                  have zf1 := HP4.out.frozen 1
                  go_simp
                  have GB : Hid (GBox w15 ((wq4.setCell ⟨wq1.heap.size, 0, none⟩ (.int .i64 s0)).setCell ⟨wq1.heap.size, 1, none⟩ (.slice a9 n9 cap9)) wq1.heap.size s0 a9 n9 cap9 wq3.heap.size wq4.heap.size LL) := GBox.stored (HB4.out) HP4.out HO9.out ((HB1.out).size) HP3.out.lt
                  have hk5 := HKS.out _ GB.out.bel
                  refine hK.out _ _ hk5 (fun hHeld => ?_)
                  clear hK K
                  try simp only [Act.put, List.setIfInBounds_toArray, List.set_cons_zero, List.set_cons_succ]
                  refine wpAnyH_take (i := 10) (oi := { dst := some 15, op := Go.Op.assign (Go.Operand.tmp 86), type := 4, pos := "exact.go:4619", after := #[{ on := 7, ground := Go.Ground.data }, { on := 9, ground := Go.Ground.chain }, { on := 0, ground := Go.Ground.phase }, { on := 1, ground := Go.Ground.phase }, { on := 2, ground := Go.Ground.phase }, { on := 3, ground := Go.Ground.phase }, { on := 4, ground := Go.Ground.phase }, { on := 5, ground := Go.Ground.phase }, { on := 6, ground := Go.Ground.phase }, { on := 7, ground := Go.Ground.phase }, { on := 8, ground := Go.Ground.phase }, { on := 9, ground := Go.Ground.phase }], guard := none }) (v := ?_) rfl (by kernel_rfl) (by kernel_rfl) (by kernel_rfl) (fun _ _ _ h => h) (Or.inl ⟨by kernel_rfl, ?_⟩) (by assumption) ?_
                  rotate_left
                  · intro w hSw; (try dsimp only at hSw); go_simp; try with_reducible rfl
                  simp only [Act.put, List.setIfInBounds_toArray, List.set_cons_zero, List.set_cons_succ]
                  refine wpAnyH_done (by kernel_rfl) ?_ _
                  clear hHeld
                  go_wp2_with fail
                  go_meet
                  case rel => exact ⟨_, a9, n9, cap9, _, _, rfl, rfl, HN9, GB⟩
                exact AllReadyH.nil
              exact AllReadyH.nil
            exact AllReadyH.nil
          exact AllReadyH.nil
        refine AllReadyH.cons (o := { dst := some 14, op := Go.Op.alloc 29, type := 0, pos := "exact.go:4619", after := #[], guard := none }) rfl (fun K hK => ?_) ?_
        · go_simp
          have HB1 : Hid (Below w15.heap.size w15 (w15.alloc (.cells #[.int .i64 0, .slice none 0 0] 29)).drew) := ((Below.refl w15.heap.size w15).drew).alloc ((Below.refl w15.heap.size w15).drew).size _
          have hk1 := HKS.out _ HB1.out
          have HP1 : Hid (Blk (w15.alloc (.cells #[.int .i64 0, .slice none 0 0] 29)).drew w15.heap.size 2 (fun i => if i = 0 then .int .i64 0 else .slice none 0 0)) := blk_two w15 _ rfl _ _ _
          refine hK.out _ _ hk1 (fun hHeld => ?_)
          clear hK K
          try simp only [Act.put, List.setIfInBounds_toArray, List.set_cons_zero, List.set_cons_succ]
          refine wpAnyH_ready (rs := [1]) (by kernel_rfl) (by simp) ?_
          refine AllReadyH.cons (o := { dst := some 81, op := Go.Op.call { callee := Go.Callee.value (Go.Operand.func 11), args := #[Go.Operand.tmp 80], argTypes := #[24] }, type := 29, pos := "exact.go:4619", after := #[{ on := 0, ground := Go.Ground.data }], guard := none }) rfl (fun K hK => ?_) ?_
          · go_simp
            go_wp2_with (go_at_call 11; refine (HTG.out _ (HB1.out)).mono ?_; rintro e wq2 ⟨g9, rfl, HX2, C2⟩)
            have HB2 : Hid (Below w15.heap.size w15 wq2) := (HB1.out).trans (C2.out.mono (HB1.out).size)
            have hk2 := HKS.out _ HB2.out
            have HP2 : Hid (Blk wq2 w15.heap.size 2 (fun i => if i = 0 then .int .i64 0 else .slice none 0 0)) := HP1.out.of_block (C2.out.block _ HP1.out.lt)
            refine hK.out _ _ hk2 (fun hHeld => ?_)
            clear hK K
            try simp only [Act.put, List.setIfInBounds_toArray, List.set_cons_zero, List.set_cons_succ]
            refine wpAnyH_ready (rs := [3]) (by kernel_rfl) (by simp) ?_
            refine AllReadyH.cons (o := { dst := some 83, op := Go.Op.call { callee := Go.Callee.value (Go.Operand.func 15), args := #[Go.Operand.tmp 82], argTypes := #[34] }, type := 37, pos := "exact.go:4619", after := #[{ on := 2, ground := Go.Ground.data }, { on := 1, ground := Go.Ground.chain }], guard := none }) rfl (fun K hK => ?_) ?_
            · go_simp
              go_wp2_with (go_at_call 15; refine (toEdge_any (x10, x11, x12) _).mono ?_; rintro e wq3 ⟨rfl, C3⟩)
              have HX3 : Hid (EdgesIn w15.heap.size wq2.heap.size wq3 (some ⟨g9, 0, none⟩) l0) := HX2.out.below C3.out (Nat.le_refl _)
              have HY3 : Hid (wq2.heap.size ≤ wq3.heap.size) := Nat.le_trans (Nat.le_refl _) C3.out.size
              have HB3 : Hid (Below w15.heap.size w15 wq3) := (HB2.out).trans (C3.out.mono (HB2.out).size)
              have hk3 := HKS.out _ HB3.out
              have HP3 : Hid (Blk wq3 w15.heap.size 2 (fun i => if i = 0 then .int .i64 0 else .slice none 0 0)) := HP2.out.of_block (C3.out.block _ HP2.out.lt)
              refine hK.out _ _ hk3 (fun hHeld => ?_)
              clear hK K
              try simp only [Act.put, List.setIfInBounds_toArray, List.set_cons_zero, List.set_cons_succ]
              refine wpAnyH_ready (rs := [4]) (by kernel_rfl) (by simp) ?_
              refine AllReadyH.cons (o := { dst := some 84, op := Go.Op.call { callee := Go.Callee.value (Go.Operand.func 16), args := #[Go.Operand.tmp 81, Go.Operand.tmp 83], argTypes := #[29, 37] }, type := 35, pos := "exact.go:4619", after := #[{ on := 1, ground := Go.Ground.data }, { on := 3, ground := Go.Ground.data }, { on := 3, ground := Go.Ground.chain }], guard := none }) rfl (fun K hK => ?_) ?_
              · go_simp
                go_wp2_with (go_at_call 16; refine (HADDI.out _ _ _ _ HX3.out HY3.out).mono ?_; rintro e wq4 ⟨a9, n9, cap9, rfl, HN9, HO9, C4⟩)
                have HB4 : Hid (Below w15.heap.size w15 wq4) := (HB3.out).trans (C4.out.mono (HB3.out).size)
                have hk4 := HKS.out _ HB4.out
                have HP4 : Hid (Blk wq4 w15.heap.size 2 (fun i => if i = 0 then .int .i64 0 else .slice none 0 0)) := HP3.out.of_block (C4.out.block _ HP3.out.lt)
                refine hK.out _ _ hk4 (fun hHeld => ?_)
                clear hK K
                try simp only [Act.put, List.setIfInBounds_toArray, List.set_cons_zero, List.set_cons_succ]
                refine wpAnyH_take (i := 5) (oi := { dst := some 79, op := Go.Op.move (Go.Operand.tmp 84), type := 35, pos := "exact.go:4619", after := #[{ on := 4, ground := Go.Ground.data }], guard := none }) (v := ?_) rfl (by kernel_rfl) (by kernel_rfl) (by kernel_rfl) (fun _ _ _ h => h) (Or.inl ⟨by kernel_rfl, ?_⟩) (by assumption) ?_
                rotate_left
                · intro w hSw; (try dsimp only at hSw); go_simp; try with_reducible rfl
                simp only [Act.put, List.setIfInBounds_toArray, List.set_cons_zero, List.set_cons_succ]
                refine wpAnyH_take (i := 6) (oi := { dst := some 85, op := Go.Op.extract (Go.Operand.tmp 79) 0, type := 29, pos := "exact.go:4619", after := #[{ on := 5, ground := Go.Ground.data }], guard := none }) (v := ?_) rfl (by kernel_rfl) (by kernel_rfl) (by kernel_rfl) (fun _ _ _ h => h) (Or.inl ⟨by kernel_rfl, ?_⟩) (by assumption) ?_
                rotate_left
                · intro w hSw; (try dsimp only at hSw); go_simp; try with_reducible rfl
                simp only [Act.put, List.setIfInBounds_toArray, List.set_cons_zero, List.set_cons_succ]
                refine wpAnyH_take (i := 7) (oi := { dst := some 86, op := Go.Op.extract (Go.Operand.tmp 79) 1, type := 4, pos := "exact.go:4619", after := #[{ on := 5, ground := Go.Ground.data }, { on := 9, ground := Go.Ground.gcOnly Go.Departure.lateStores }], guard := none }) (v := ?_) rfl (by kernel_rfl) (by kernel_rfl) (by kernel_rfl) (fun _ _ _ h => h) (Or.inl ⟨by kernel_rfl, ?_⟩) (by assumption) ?_
                rotate_left
                · intro w hSw; (try dsimp only at hSw); go_simp; try with_reducible rfl
                simp only [Act.put, List.setIfInBounds_toArray, List.set_cons_zero, List.set_cons_succ]
                refine wpAnyH_ready (rs := [9]) (by kernel_rfl) (by simp) ?_
                refine AllReadyH.cons (o := { dst := none, op := Go.Op.store 29 (Go.Operand.tmp 14) (Go.Operand.tmp 85), type := 0, pos := "exact.go:4619", after := #[{ on := 8, ground := Go.Ground.data }, { on := 6, ground := Go.Ground.data }, { on := 4, ground := Go.Ground.chain }, { on := 0, ground := Go.Ground.phase }, { on := 1, ground := Go.Ground.phase }, { on := 2, ground := Go.Ground.phase }, { on := 3, ground := Go.Ground.phase }, { on := 4, ground := Go.Ground.phase }, { on := 5, ground := Go.Ground.phase }, { on := 6, ground := Go.Ground.phase }, { on := 7, ground := Go.Ground.textOnly Go.Departure.lateStores }, { on := 8, ground := Go.Ground.phase }], guard := none }) rfl (fun K hK => ?_) ?_
                · obtain ⟨z0, z1⟩ := blk_pair_cells HP4.out
                  have zf0 := HP4.out.frozen 0
                  have zf1 := HP4.out.frozen 1
                  go_simp
                  have GB : Hid (GBox w15 ((wq4.setCell ⟨w15.heap.size, 0, none⟩ (.int .i64 s0)).setCell ⟨w15.heap.size, 1, none⟩ (.slice a9 n9 cap9)) w15.heap.size s0 a9 n9 cap9 wq3.heap.size wq4.heap.size LL) := GBox.stored (HB4.out) HP4.out HO9.out (((Below.refl w15.heap.size w15).drew).size) HP3.out.lt
                  have hk5 := HKS.out _ GB.out.bel
                  refine hK.out _ _ hk5 (fun hHeld => ?_)
                  clear hK K
                  try simp only [Act.put, List.setIfInBounds_toArray, List.set_cons_zero, List.set_cons_succ]
                  refine wpAnyH_take (i := 10) (oi := { dst := some 15, op := Go.Op.assign (Go.Operand.tmp 86), type := 4, pos := "exact.go:4619", after := #[{ on := 7, ground := Go.Ground.data }, { on := 9, ground := Go.Ground.chain }, { on := 0, ground := Go.Ground.phase }, { on := 1, ground := Go.Ground.phase }, { on := 2, ground := Go.Ground.phase }, { on := 3, ground := Go.Ground.phase }, { on := 4, ground := Go.Ground.phase }, { on := 5, ground := Go.Ground.phase }, { on := 6, ground := Go.Ground.phase }, { on := 7, ground := Go.Ground.phase }, { on := 8, ground := Go.Ground.phase }, { on := 9, ground := Go.Ground.phase }], guard := none }) (v := ?_) rfl (by kernel_rfl) (by kernel_rfl) (by kernel_rfl) (fun _ _ _ h => h) (Or.inl ⟨by kernel_rfl, ?_⟩) (by assumption) ?_
                  rotate_left
                  · intro w hSw; (try dsimp only at hSw); go_simp; try with_reducible rfl
                  simp only [Act.put, List.setIfInBounds_toArray, List.set_cons_zero, List.set_cons_succ]
                  refine wpAnyH_done (by kernel_rfl) ?_ _
                  clear hHeld
                  go_wp2_with fail
                  go_meet
                  case rel => exact ⟨_, a9, n9, cap9, _, _, rfl, rfl, HN9, GB⟩
                exact AllReadyH.nil
              exact AllReadyH.nil
            exact AllReadyH.nil
          exact AllReadyH.nil
        exact AllReadyH.nil
      case rest =>
        obtain ⟨P16, a16, n16, cap16, lo16, hi16, rfl, rfl, HN16, HGB⟩ := hcut
        obtain ⟨w16, rfl⟩ : ∃ z, z = wc := ⟨_, rfl⟩
        clear q_70 q_71 q_72 q_73 q_74 HKS HTG
        have HGBB : Hid (Below w15.heap.size w15 w16) := HGB.out.bel
        have HD_75 : Hid (Hold w w16 [(P16, [.int .i64 s0, .slice a16 n16 cap16]), (P8, [.int .i64 s0, .slice a8 n5 cap8]), (w6.heap.size, [.int .i64 s0, .slice (some ⟨g6, 0, none⟩) n0 n0]), (P5, [.int .i64 s0, .slice a5 n5 cap5]), (w.heap.size + 1, [.int .i64 x10, .int .u8 x11, .int .i64 x12]), (w.heap.size, [.int .i64 s0, .slice a0 n0 cap0])]) := HD_68.out.also HGBB.out HGB.out.box
        clear HD_68
        have ZZ76 : Hid (w15.heap.size ≤ lo16 ∧ w15.heap.size ≤ P16) := HGB.out.low
        have OFF_P16 : Hid (P16 < lo16 ∨ hi16 ≤ P16) := HGB.out.off
        have ZZ77 : Hid (hi16 ≤ w16.heap.size ∧ P16 < w16.heap.size) := HGB.out.size
        have ZZ78 : Hid (w15.heap.size ≤ w16.heap.size) := HGBB.out.size
        have W0_78 : Hid (EdgesOwn lo5 hi5 w16 a5 LL) := W0_69.out.below HGBB.out (by have y0 := ZZ2.out; have y1 := ZZ9.out; have y2 := ZZ10.out; have y3 := ZZ11.out; have y4 := ZZ18.out; have y5 := ZZ22.out; have y6 := ZZ23.out; have y7 := ZZz.out; have y8 := ZZ30.out; have y9 := ZZ31.out; have y10 := ZZ32.out; have y11 := ZZ40.out; have y12 := ZZ46.out; have y13 := ZZ51.out; have y14 := ZZ58.out; have y15 := ZZ63.out; have y16 := ZZ69.out; have y17 := ZZ76.out; have y18 := ZZ77.out; have y19 := ZZ78.out; omega)
        have G0_78 : Hid (EdgesOwn lo8 hi8 w16 a8 (marksE 1 n5)) := G0_69.out.below HGBB.out (by have y0 := ZZ2.out; have y1 := ZZ9.out; have y2 := ZZ10.out; have y3 := ZZ11.out; have y4 := ZZ18.out; have y5 := ZZ22.out; have y6 := ZZ23.out; have y7 := ZZz.out; have y8 := ZZ30.out; have y9 := ZZ31.out; have y10 := ZZ32.out; have y11 := ZZ40.out; have y12 := ZZ46.out; have y13 := ZZ51.out; have y14 := ZZ58.out; have y15 := ZZ63.out; have y16 := ZZ69.out; have y17 := ZZ76.out; have y18 := ZZ77.out; have y19 := ZZ78.out; omega)
        clear W0_69 G0_69
        have H0_79 : Hid (EdgesOwn lo16 hi16 w16 a16 LL) := HGB.out.own
        clear HGB HGBB
        obtain rfl : n5 = n16 := by rw [← HN5.out, HN16.out]
        clear HN16
        have q_80 : w16.cell? ⟨P5, 0, none⟩ = some (.int .i64 s0) := HD_75.out.cell (b := P5) (vs := [.int .i64 s0, .slice a5 n5 cap5]) (i := 0) (by simp) (by simp)
        have q_81 : w16.cell? ⟨P5, 1, none⟩ = some (.slice a5 n5 cap5) := HD_75.out.cell (b := P5) (vs := [.int .i64 s0, .slice a5 n5 cap5]) (i := 1) (by simp) (by simp)
        have q_82 : w16.cell? ⟨P16, 0, none⟩ = some (.int .i64 s0) := HD_75.out.cell (b := P16) (vs := [.int .i64 s0, .slice a16 n5 cap16]) (i := 0) (by simp) (by simp)
        have q_83 : w16.cell? ⟨P16, 1, none⟩ = some (.slice a16 n5 cap16) := HD_75.out.cell (b := P16) (vs := [.int .i64 s0, .slice a16 n5 cap16]) (i := 1) (by simp) (by simp)
        go_wp2_with fail
        refine (eqGraph_any lo16 hi16 lo5 hi5 s0 s0 a16 a5 n5 n5 cap16 cap5 LL LL true _ H0_79.out.toIn W0_78.out.toIn (by have y0 := ZZ2.out; have y1 := ZZ9.out; have y2 := ZZ10.out; have y3 := ZZ11.out; have y4 := ZZ18.out; have y5 := ZZ22.out; have y6 := ZZ23.out; have y7 := ZZz.out; have y8 := ZZ30.out; have y9 := ZZ31.out; have y10 := ZZ32.out; have y11 := ZZ40.out; have y12 := ZZ46.out; have y13 := ZZ51.out; have y14 := ZZ58.out; have y15 := ZZ63.out; have y16 := ZZ69.out; have y17 := ZZ76.out; have y18 := ZZ77.out; have y19 := ZZ78.out; omega) (by have y0 := ZZ2.out; have y1 := ZZ9.out; have y2 := ZZ10.out; have y3 := ZZ11.out; have y4 := ZZ18.out; have y5 := ZZ22.out; have y6 := ZZ23.out; have y7 := ZZz.out; have y8 := ZZ30.out; have y9 := ZZ31.out; have y10 := ZZ32.out; have y11 := ZZ40.out; have y12 := ZZ46.out; have y13 := ZZ51.out; have y14 := ZZ58.out; have y15 := ZZ63.out; have y16 := ZZ69.out; have y17 := ZZ76.out; have y18 := ZZ77.out; have y19 := ZZ78.out; omega) HN5.out HN5.out HM5.out (by simp)).mono ?_
        rintro e w17 ⟨rfl, B_84⟩
        clear q_80 q_81 q_82 q_83
        have HD_85 : Hid (Hold w w17 [(P16, [.int .i64 s0, .slice a16 n5 cap16]), (P8, [.int .i64 s0, .slice a8 n5 cap8]), (w6.heap.size, [.int .i64 s0, .slice (some ⟨g6, 0, none⟩) n0 n0]), (P5, [.int .i64 s0, .slice a5 n5 cap5]), (w.heap.size + 1, [.int .i64 x10, .int .u8 x11, .int .i64 x12]), (w.heap.size, [.int .i64 s0, .slice a0 n0 cap0])]) := HD_75.out.below B_84.out
        clear HD_75
        have ZZ86 : Hid (w16.heap.size ≤ w17.heap.size) := B_84.out.size
        have W0_86 : Hid (EdgesOwn lo5 hi5 w17 a5 LL) := W0_78.out.below B_84.out (by have y0 := ZZ2.out; have y1 := ZZ9.out; have y2 := ZZ10.out; have y3 := ZZ11.out; have y4 := ZZ18.out; have y5 := ZZ22.out; have y6 := ZZ23.out; have y7 := ZZz.out; have y8 := ZZ30.out; have y9 := ZZ31.out; have y10 := ZZ32.out; have y11 := ZZ40.out; have y12 := ZZ46.out; have y13 := ZZ51.out; have y14 := ZZ58.out; have y15 := ZZ63.out; have y16 := ZZ69.out; have y17 := ZZ76.out; have y18 := ZZ77.out; have y19 := ZZ78.out; have y20 := ZZ86.out; omega)
        have G0_86 : Hid (EdgesOwn lo8 hi8 w17 a8 (marksE 1 n5)) := G0_78.out.below B_84.out (by have y0 := ZZ2.out; have y1 := ZZ9.out; have y2 := ZZ10.out; have y3 := ZZ11.out; have y4 := ZZ18.out; have y5 := ZZ22.out; have y6 := ZZ23.out; have y7 := ZZz.out; have y8 := ZZ30.out; have y9 := ZZ31.out; have y10 := ZZ32.out; have y11 := ZZ40.out; have y12 := ZZ46.out; have y13 := ZZ51.out; have y14 := ZZ58.out; have y15 := ZZ63.out; have y16 := ZZ69.out; have y17 := ZZ76.out; have y18 := ZZ77.out; have y19 := ZZ78.out; have y20 := ZZ86.out; omega)
        have H0_86 : Hid (EdgesOwn lo16 hi16 w17 a16 LL) := H0_79.out.below B_84.out (by have y0 := ZZ2.out; have y1 := ZZ9.out; have y2 := ZZ10.out; have y3 := ZZ11.out; have y4 := ZZ18.out; have y5 := ZZ22.out; have y6 := ZZ23.out; have y7 := ZZz.out; have y8 := ZZ30.out; have y9 := ZZ31.out; have y10 := ZZ32.out; have y11 := ZZ40.out; have y12 := ZZ46.out; have y13 := ZZ51.out; have y14 := ZZ58.out; have y15 := ZZ63.out; have y16 := ZZ69.out; have y17 := ZZ76.out; have y18 := ZZ77.out; have y19 := ZZ78.out; have y20 := ZZ86.out; omega)
        clear W0_78 G0_78 H0_79
        clear B_84
        have q_87 : w17.cell? ⟨P8, 0, none⟩ = some (.int .i64 s0) := HD_85.out.cell (b := P8) (vs := [.int .i64 s0, .slice a8 n5 cap8]) (i := 0) (by simp) (by simp)
        have q_88 : w17.cell? ⟨P8, 1, none⟩ = some (.slice a8 n5 cap8) := HD_85.out.cell (b := P8) (vs := [.int .i64 s0, .slice a8 n5 cap8]) (i := 1) (by simp) (by simp)
        go_wp2_with fail
        refine (heldGraph_any lo8 hi8 s0 a8 n5 cap8 1 _ G0_86.out.toIn (by have y0 := ZZ2.out; have y1 := ZZ9.out; have y2 := ZZ10.out; have y3 := ZZ11.out; have y4 := ZZ18.out; have y5 := ZZ22.out; have y6 := ZZ23.out; have y7 := ZZz.out; have y8 := ZZ30.out; have y9 := ZZ31.out; have y10 := ZZ32.out; have y11 := ZZ40.out; have y12 := ZZ46.out; have y13 := ZZ51.out; have y14 := ZZ58.out; have y15 := ZZ63.out; have y16 := ZZ69.out; have y17 := ZZ76.out; have y18 := ZZ77.out; have y19 := ZZ78.out; have y20 := ZZ86.out; omega) HM5.out (by omega)).mono ?_
        rintro e w18 ⟨m18, rfl, HM_m18, B_89⟩
        clear q_87 q_88
        have HD_90 : Hid (Hold w w18 [(P16, [.int .i64 s0, .slice a16 n5 cap16]), (P8, [.int .i64 s0, .slice a8 n5 cap8]), (w6.heap.size, [.int .i64 s0, .slice (some ⟨g6, 0, none⟩) n0 n0]), (P5, [.int .i64 s0, .slice a5 n5 cap5]), (w.heap.size + 1, [.int .i64 x10, .int .u8 x11, .int .i64 x12]), (w.heap.size, [.int .i64 s0, .slice a0 n0 cap0])]) := HD_85.out.below B_89.out
        clear HD_85
        have ZZ91 : Hid (w17.heap.size ≤ w18.heap.size) := B_89.out.size
        have W0_91 : Hid (EdgesOwn lo5 hi5 w18 a5 LL) := W0_86.out.below B_89.out (by have y0 := ZZ2.out; have y1 := ZZ9.out; have y2 := ZZ10.out; have y3 := ZZ11.out; have y4 := ZZ18.out; have y5 := ZZ22.out; have y6 := ZZ23.out; have y7 := ZZz.out; have y8 := ZZ30.out; have y9 := ZZ31.out; have y10 := ZZ32.out; have y11 := ZZ40.out; have y12 := ZZ46.out; have y13 := ZZ51.out; have y14 := ZZ58.out; have y15 := ZZ63.out; have y16 := ZZ69.out; have y17 := ZZ76.out; have y18 := ZZ77.out; have y19 := ZZ78.out; have y20 := ZZ86.out; have y21 := ZZ91.out; omega)
        have G0_91 : Hid (EdgesOwn lo8 hi8 w18 a8 (marksE 1 n5)) := G0_86.out.below B_89.out (by have y0 := ZZ2.out; have y1 := ZZ9.out; have y2 := ZZ10.out; have y3 := ZZ11.out; have y4 := ZZ18.out; have y5 := ZZ22.out; have y6 := ZZ23.out; have y7 := ZZz.out; have y8 := ZZ30.out; have y9 := ZZ31.out; have y10 := ZZ32.out; have y11 := ZZ40.out; have y12 := ZZ46.out; have y13 := ZZ51.out; have y14 := ZZ58.out; have y15 := ZZ63.out; have y16 := ZZ69.out; have y17 := ZZ76.out; have y18 := ZZ77.out; have y19 := ZZ78.out; have y20 := ZZ86.out; have y21 := ZZ91.out; omega)
        have H0_91 : Hid (EdgesOwn lo16 hi16 w18 a16 LL) := H0_86.out.below B_89.out (by have y0 := ZZ2.out; have y1 := ZZ9.out; have y2 := ZZ10.out; have y3 := ZZ11.out; have y4 := ZZ18.out; have y5 := ZZ22.out; have y6 := ZZ23.out; have y7 := ZZz.out; have y8 := ZZ30.out; have y9 := ZZ31.out; have y10 := ZZ32.out; have y11 := ZZ40.out; have y12 := ZZ46.out; have y13 := ZZ51.out; have y14 := ZZ58.out; have y15 := ZZ63.out; have y16 := ZZ69.out; have y17 := ZZ76.out; have y18 := ZZ77.out; have y19 := ZZ78.out; have y20 := ZZ86.out; have y21 := ZZ91.out; omega)
        clear W0_86 G0_86 H0_86
        clear B_89
        obtain rfl : m14 = m18 := by rw [HM_m18.out, HM_m14.out]
        clear HM_m18
        have hn_m18 : ¬ ((m14 : Nat) : Int) < 0 := by omega
        go_wp2
        go_ret
        exact ⟨rfl, HD_90.out.bel⟩
end Go.Proofs.Ytfeimdlkpiacoaa
