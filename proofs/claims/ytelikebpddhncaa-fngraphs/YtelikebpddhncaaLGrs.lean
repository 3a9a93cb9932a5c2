/-
  The walk of FnGraphs.
-/
import Derived.Test.YtelikebpddhncaaQG0
import Derived.Test.YtelikebpddhncaaGOk
import Derived.Deep.DeepCutAuto
namespace Go.Proofs.Ytelikebpddhncaa
open Go.RowKit

set_option maxHeartbeats 1000000 in
set_option maxRecDepth 100000 in
theorem in_no (lo hi : Nat) (a : Option Addr) (n cap : Nat) (l : List Int) (x : Int) (w : World) (ha : RowIn lo hi w a l) (hn : l.length = n) (hm : n ≤ 1048576) (hx : ¬ x ∈ l) :
    Calls Try.prog 26 #[.slice a n cap, .int .i64 x] w fun e w' => e = .returned (.bool false) ∧ Hid (Below w.heap.size w w') := by
  have HA : Hid (RowIn lo hi w a l) := ha
  have HX : Hid (∀ i, i < l.length → l.getD i 0 ≠ x) := fun i hi e => hx (by rw [← e]; simp [List.getD, hi])
  have HN : Hid (l.length = n) := hn
  clear ha hx hn
  go_enter Try.func26, Try.ntmps26
  go_wp2
  go_loop [5] (fun i => ∃ k : Nat, i = .int .i64 k ∧ k ≤ n) (fun i => n - (intOf i).toNat)
  case atStart => exact ⟨0, rfl, by omega⟩
  case round =>
    obtain ⟨k, rfl, hk⟩ := hrel
    by_cases hlt : k < n
    · have hlt1 : (k : Int) < (n : Int) := by omega
      have hlt0 : (0 : Int) ≤ (k : Int) := by omega
      obtain ⟨z, HZ⟩ : ∃ z : Int, Hid (z = l.getD k 0) := ⟨_, rfl⟩
      have he : ¬ z = x := by rw [HZ.out]; exact HX.out k (by rw [HN.out]; exact hlt)
      rcases HA.out with h0 | ⟨b, o, rfl, _, _, hc⟩
      · have := HN.out; rw [h0] at this; simp at this; omega
      have hcell : w.cell? ⟨b, o + k, none⟩ = some (.int .i64 z) := by rw [HZ.out]; exact hc k (by rw [HN.out]; exact hlt)
      clear hc
      go_wp2
      go_round
      case rel => exact ⟨k + 1, by go_num, by omega⟩
      case measure => simp [intOf]; omega
    · have hlt1 : ¬ (k : Int) < (n : Int) := by omega
      go_wp2
      go_ret
      exact ⟨rfl, Below.refl _ _⟩
theorem in_q (lo hi : Nat) (a : Option Addr) (n cap : Nat) (l : List Int) (x : Int) (q : Bool) (w : World) (ha : RowIn lo hi w a l) (hn : l.length = n) (hm : n ≤ 1048576) (hq : q = decide (x ∈ l)) :
    Calls Try.prog 26 #[.slice a n cap, .int .i64 x] w fun e w' => e = .returned (.bool q) ∧ Hid (Below w.heap.size w w') := by
  by_cases h : x ∈ l
  · rw [hq, decide_eq_true h]; exact in_any lo hi a n cap l x w ha hn hm h
  · rw [hq, decide_eq_false h]; exact in_no lo hi a n cap l x w ha hn hm h
theorem edge_ok {z0 z1 z2 s : Int} (h0 : 0 ≤ z0) (h1 : 0 ≤ z1) (h2 : 0 ≤ z2) (hs : 2 ≤ s) (hs5 : s ≤ 5) : Hid (okE s (z0.tmod s, IntKind.u8.wrap (IntKind.i64.wrap (97 + z1.tmod 4)), z2.tmod s) = true) := by
  have a0 := Int.emod_nonneg z0 (show s ≠ 0 by omega)
  have a1 := Int.emod_lt_of_pos z0 (show 0 < s by omega)
  have b0 := Int.emod_nonneg z2 (show s ≠ 0 by omega)
  have b1 := Int.emod_lt_of_pos z2 (show 0 < s by omega)
  show _ = _
  rw [Int.tmod_eq_emod_of_nonneg h0, Int.tmod_eq_emod_of_nonneg h1, Int.tmod_eq_emod_of_nonneg h2, IntKind.wrap_i64, IntKind.wrap_u8]
  unfold okE inV
  simp only [Bool.and_eq_true, decide_eq_true_eq]
  omega
theorem put_len_new {L : List Ed} {x : Ed} (h : SrtE L) (hx : ¬ x ∈ L) : (putE L x).length = L.length + 1 := by
  have := perm_of_srt (l := x :: L) (L := putE L x) (List.nodup_cons.2 ⟨hx, h.nodup⟩) (srt_putE h x).nodup (fun y => by rw [mem_putE, List.mem_cons])
  rw [← this]; rfl
/-- a box of three, new -/
structure E5 (W w5 : World) (P5 : Nat) (x y z : Value) : Prop where
  bel : Below W.heap.size W w5
  box : Blk w5 P5 3 (fun i => if i = 0 then x else if i = 1 then y else z)
theorem E5.fresh (W : World) (x y z : Value) : Hid (E5 W ((W.alloc (.cells #[x, y, z] 42)).drew) W.heap.size x y z) := ⟨(below1 W _).drew, (blk_three W _ rfl x y z 42).of_block rfl⟩
theorem Hold.also3 {w W wc : World} {bx : List (Nat × List Value)} (h : Hold w W bx) {P : Nat} {x y z : Value} (hp : E5 W wc P x y z) : Hold w wc ((P, [x, y, z]) :: bx) :=
  ⟨(h.below hp.bel).bel, fun p hm => by
    rcases List.mem_cons.1 hm with rfl | hm
    · exact hp.box.congr (fun i hi => by rcases (show i = 0 ∨ i = 1 ∨ i = 2 by have : i < 3 := hi; omega) with rfl | rfl | rfl <;> rfl)
    · exact (h.below hp.bel).box p hm⟩
/-- the graphs and the edge in their boxes -/
structure GS (w wi : World) (P3 P5 P6 P8 : Nat) (s f lb tt : Int) (a a6 a8 : Option Addr) (n c n6 c6 c8 : Nat) (L KL : List Ed) : Prop where
  hold : Hold w wi [(P8, [.int .i64 s, .slice a8 n6 c8]), (P6, [.int .i64 s, .slice a6 n6 c6]), (P5, [.int .i64 f, .int .u8 lb, .int .i64 tt]), (P3, [.int .i64 s, .slice a n c])]
  eg : EdgesIn 0 P3 wi a L
  en : EdgesIn 0 P6 wi a6 KL
  em : EdgesIn 0 P8 wi a8 KL
  lt : P3 ≤ wi.heap.size ∧ P6 ≤ wi.heap.size ∧ P8 ≤ wi.heap.size
theorem GS.below {w wi : World} {P3 P5 P6 P8 : Nat} {s f lb tt : Int} {a a6 a8 : Option Addr} {n c n6 c6 c8 : Nat} {L KL : List Ed} {wj : World} (h : GS w wi P3 P5 P6 P8 s f lb tt a a6 a8 n c n6 c6 c8 L KL) (hb : Below wi.heap.size wi wj) : GS w wj P3 P5 P6 P8 s f lb tt a a6 a8 n c n6 c6 c8 L KL :=
  ⟨h.hold.below hb, h.eg.below hb h.lt.1, h.en.below hb h.lt.2.1, h.em.below hb h.lt.2.2, ⟨Nat.le_trans h.lt.1 hb.size, Nat.le_trans h.lt.2.1 hb.size, Nat.le_trans h.lt.2.2 hb.size⟩⟩
theorem GS.drew {w wi : World} {P3 P5 P6 P8 : Nat} {s f lb tt : Int} {a a6 a8 : Option Addr} {n c n6 c6 c8 : Nat} {L KL : List Ed} (h : GS w wi P3 P5 P6 P8 s f lb tt a a6 a8 n c n6 c6 c8 L KL) : GS w wi.drew P3 P5 P6 P8 s f lb tt a a6 a8 n c n6 c6 c8 L KL := h.below ((Below.refl _ _).drew)
theorem GS.cells {w wi : World} {P3 P5 P6 P8 : Nat} {s f lb tt : Int} {a a6 a8 : Option Addr} {n c n6 c6 c8 : Nat} {L KL : List Ed} (h : GS w wi P3 P5 P6 P8 s f lb tt a a6 a8 n c n6 c6 c8 L KL) :
    wi.cell? ⟨P3, 0, none⟩ = some (.int .i64 s) ∧ wi.cell? ⟨P3, 1, none⟩ = some (.slice a n c) ∧ wi.cell? ⟨P5, 0, none⟩ = some (.int .i64 f) ∧ wi.cell? ⟨P5, 1, none⟩ = some (.int .u8 lb) ∧ wi.cell? ⟨P5, 2, none⟩ = some (.int .i64 tt) ∧ wi.cell? ⟨P6, 0, none⟩ = some (.int .i64 s) ∧ wi.cell? ⟨P6, 1, none⟩ = some (.slice a6 n6 c6) ∧ wi.cell? ⟨P8, 0, none⟩ = some (.int .i64 s) ∧ wi.cell? ⟨P8, 1, none⟩ = some (.slice a8 n6 c8) :=
  ⟨h.hold.cell (b := P3) (vs := [.int .i64 s, .slice a n c]) (i := 0) (by simp) (by simp), h.hold.cell (b := P3) (vs := [.int .i64 s, .slice a n c]) (i := 1) (by simp) (by simp), h.hold.cell (b := P5) (vs := [.int .i64 f, .int .u8 lb, .int .i64 tt]) (i := 0) (by simp) (by simp), h.hold.cell (b := P5) (vs := [.int .i64 f, .int .u8 lb, .int .i64 tt]) (i := 1) (by simp) (by simp), h.hold.cell (b := P5) (vs := [.int .i64 f, .int .u8 lb, .int .i64 tt]) (i := 2) (by simp) (by simp), h.hold.cell (b := P6) (vs := [.int .i64 s, .slice a6 n6 c6]) (i := 0) (by simp) (by simp), h.hold.cell (b := P6) (vs := [.int .i64 s, .slice a6 n6 c6]) (i := 1) (by simp) (by simp), h.hold.cell (b := P8) (vs := [.int .i64 s, .slice a8 n6 c8]) (i := 0) (by simp) (by simp), h.hold.cell (b := P8) (vs := [.int .i64 s, .slice a8 n6 c8]) (i := 1) (by simp) (by simp)⟩

set_option maxHeartbeats 16000000 in
set_option maxRecDepth 100000 in
theorem law_4 (a0 : Option Addr) (n0 cap0 : Nat) (w : World) (hc0 : CodeIn w a0 n0) :
    Calls Try.prog 4 #[.slice a0 n0 cap0] w fun e w' => e = .returned (.bool true) ∧ Below w.heap.size w w' := by
  by_cases hbig : (1048576 : Int) < (n0 : Int)
  · clear hc0
    go_enter Try.func4, Try.ntmps4
    go_wp2_with fail
    refine (big_yes a0 n0 cap0 w hbig).mono ?_
    rintro e w1 ⟨rfl, rfl⟩
    go_wp2
    go_ret
    exact ⟨rfl, Below.refl _ _⟩
  have hn : n0 ≤ 1048576 := by omega
  have HC : Hid (CodeIn w a0 n0) := hc0
  clear hc0 hbig
  go_enter Try.func4, Try.ntmps4
  go_wp2_with fail
  refine (big_no a0 n0 cap0 w hn).mono ?_
  rintro e w0 ⟨rfl, rfl⟩
  go_wp2_with fail
  refine (drawGraph_any w n0 cap0 a0 hn HC.out).mono ?_
  rintro e w1 ⟨s, a, n, c, L, rfl, HLN, HE1, HGD, HB1⟩
  obtain ⟨P3, HP3⟩ : ∃ P3, Hid (w1.heap.size = P3) := ⟨_, rfl⟩
  have HN10 : Hid (n ≤ 10) := by show n ≤ 10; have := HGD.out.1.2.1; have := HLN.out; omega
  have HN1 : Hid (1 ≤ n) := by
    have h2 := HGD.out.1.2.2 (by omega); have h3 := HLN.out
    show 1 ≤ n
    rcases L with _ | ⟨y, L⟩
    · exact absurd rfl h2
    · simp at h3; omega
  obtain ⟨HOL, hs2, hs5⟩ : Hid (okG s L = true) ∧ 2 ≤ s ∧ s ≤ 5 := ⟨HGD.out.1.1, HGD.out.2.1, HGD.out.2.2⟩
  have HD1 : Hid (Hold w (w1.alloc (.cells #[.int .i64 s, .slice a n c] 37)) [(P3, [.int .i64 s, .slice a n c])]) := by
    have h := ((Hold.none w).below HB1.out).more [.int .i64 s, .slice a n c] 37
    rw [HP3.out] at h; exact h
  have HE1' : Hid (EdgesIn 0 P3 (w1.alloc (.cells #[.int .i64 s, .slice a n c] 37)) a L) := by rw [← HP3.out]; exact (HE1.out.below (below1 w1 _) (Nat.le_refl _)).wide (Nat.zero_le _) (Nat.le_refl _)
  have HP3W : Hid (P3 ≤ (w1.alloc (.cells #[.int .i64 s, .slice a n c] 37)).heap.size) := by show _ ≤ _; rw [← HP3.out]; simp
  clear HGD HE1 HB1
  go_wp2_with fail
  rw [HP3.out]
  generalize hW1 : w1.alloc (.cells #[.int .i64 s, .slice a n c] 37) = W1 at *
  clear hW1
  refine (drawPlaces_any a0 n0 cap0 W1 hn (HC.out.below HD1.out.bel)).mono ?_
  rintro e w2 ⟨gp, cg, z0, z1, z2, rfl, HZ, HZC, HB2⟩
  obtain ⟨⟨hz0, hz0'⟩, ⟨hz1, hz1'⟩, ⟨hz2, hz2'⟩⟩ := HZ.out
  obtain ⟨y0, y1, y2⟩ := HZC.out
  have HD2 : Hid (Hold w w2 [(P3, [.int .i64 s, .slice a n c])]) := HD1.out.below HB2.out
  have HE2 : Hid (EdgesIn 0 P3 w2 a L) := HE1'.out.below HB2.out HP3W.out
  have HP3X : Hid (P3 ≤ w2.heap.size) := Nat.le_trans HP3W.out HB2.out.size
  clear HD1 HE1' HP3W HB2 HZ HZC
  have q0 : w2.cell? ⟨P3, 0, none⟩ = some (.int .i64 s) := HD2.out.cell (b := P3) (vs := [.int .i64 s, .slice a n c]) (i := 0) (by simp) (by simp)
  have HK5 : Hid (∀ w', Below w2.heap.size w2 w' → (w'.cell? ⟨P3, 0, none⟩ = some (.int .i64 s) ∧ w'.cell? ⟨gp, 0, none⟩ = some (.int .i64 z0) ∧ w'.cell? ⟨gp, 1, none⟩ = some (.int .i64 z1) ∧ w'.cell? ⟨gp, 2, none⟩ = some (.int .i64 z2))) := fun w' h => ⟨cell_below q0 h (lt_of_cell q0), cell_below y0 h (lt_of_cell y0), cell_below y1 h (lt_of_cell y1), cell_below y2 h (lt_of_cell y2)⟩
  have hsz : (s == 0) = false := by simp; omega
  have hs0 : ¬ s = 0 := by omega
  have hs1 : 0 < s := by omega
  go_upto_region 5 with fail
  go_cut [5] (fun p wc => ∃ (P5 : Nat) (f lb tt : Int), p = .pointer (some ⟨P5, 0, none⟩) ∧ Hid (okE s (f, lb, tt) = true) ∧ Hid (E5 w2 wc P5 (.int .i64 f) (.int .u8 lb) (.int .i64 tt)))
  case first =>
    refine wp_region_held_drew (S := fun w' => w'.cell? ⟨P3, 0, none⟩ = some (.int .i64 s) ∧ w'.cell? ⟨gp, 0, none⟩ = some (.int .i64 z0) ∧ w'.cell? ⟨gp, 1, none⟩ = some (.int .i64 z1) ∧ w'.cell? ⟨gp, 2, none⟩ = some (.int .i64 z2)) (by kernel_rfl) ⟨q0, y0, y1, y2⟩ (fun hHeld => ?_)
    clear q0 y0 y1 y2
    refine wpAnyH_take (i := 0) (oi := { dst := some 19, op := Go.Op.move (Go.Operand.tmp 4), type := 39, pos := "laws.go:336", after := #[], guard := none }) (v := ?_) rfl (by kernel_rfl) (by kernel_rfl) (by kernel_rfl) (fun _ _ _ h => h) (Or.inl ⟨by kernel_rfl, ?_⟩) (by assumption) ?_
    rotate_left
    · intro w hSw; (try dsimp only at hSw); go_simp; try with_reducible rfl
    simp only [Act.put, List.setIfInBounds_toArray, List.set_cons_zero, List.set_cons_succ]
    refine wpAnyH_take (i := 1) (oi := { dst := some 20, op := Go.Op.indexAddr 39 (Go.Operand.tmp 19) (Go.Operand.const (Go.Value.int Go.IntKind.i64 0)), type := 0, pos := "laws.go:336", after := #[{ on := 0, ground := Go.Ground.data }], guard := none }) (v := ?_) rfl (by kernel_rfl) (by kernel_rfl) (by kernel_rfl) (fun _ _ _ h => h) (Or.inl ⟨by kernel_rfl, ?_⟩) (by assumption) ?_
    rotate_left
    · intro w hSw; (try dsimp only at hSw); go_simp; try with_reducible rfl
    simp only [Act.put, List.setIfInBounds_toArray, List.set_cons_zero, List.set_cons_succ]
    refine wpAnyH_take (i := 2) (oi := { dst := some 21, op := Go.Op.load 3 (Go.Operand.tmp 20), type := 3, pos := "laws.go:336", after := #[{ on := 1, ground := Go.Ground.data }], guard := none }) (v := ?_) rfl (by kernel_rfl) (by kernel_rfl) (by kernel_rfl) (fun _ _ _ h => h) (Or.inl ⟨by kernel_rfl, ?_⟩) (by assumption) ?_
    rotate_left
    · intro w hSw; (try dsimp only at hSw); go_simp; try with_reducible rfl
    simp only [Act.put, List.setIfInBounds_toArray, List.set_cons_zero, List.set_cons_succ]
    refine wpAnyH_take (i := 3) (oi := { dst := some 22, op := Go.Op.fieldAddr 37 (Go.Operand.tmp 3) 0, type := 0, pos := "laws.go:336", after := #[], guard := none }) (v := ?_) rfl (by kernel_rfl) (by kernel_rfl) (by kernel_rfl) (fun _ _ _ h => h) (Or.inl ⟨by kernel_rfl, ?_⟩) (by assumption) ?_
    rotate_left
    · intro w hSw; (try dsimp only at hSw); go_simp; try with_reducible rfl
    simp only [Act.put, List.setIfInBounds_toArray, List.set_cons_zero, List.set_cons_succ]
    refine wpAnyH_take (i := 4) (oi := { dst := some 23, op := Go.Op.load 3 (Go.Operand.tmp 22), type := 3, pos := "laws.go:336", after := #[{ on := 3, ground := Go.Ground.data }], guard := none }) (v := ?_) rfl (by kernel_rfl) (by kernel_rfl) (by kernel_rfl) (fun _ _ _ h => h) (Or.inl ⟨by kernel_rfl, ?_⟩) (by assumption) ?_
    rotate_left
    · intro w hSw; (try dsimp only at hSw); go_simp; try with_reducible rfl
    simp only [Act.put, List.setIfInBounds_toArray, List.set_cons_zero, List.set_cons_succ]
    refine wpAnyH_take (i := 5) (oi := { dst := some 24, op := Go.Op.binOp Go.BinOp.rem 3 (Go.Operand.tmp 21) (Go.Operand.tmp 23) 3, type := 3, pos := "laws.go:336", after := #[{ on := 2, ground := Go.Ground.data }, { on := 4, ground := Go.Ground.data }], guard := none }) (v := ?_) rfl (by kernel_rfl) (by kernel_rfl) (by kernel_rfl) (fun _ _ _ h => h) (Or.inl ⟨by kernel_rfl, ?_⟩) (by assumption) ?_
    rotate_left
    · intro w hSw; (try dsimp only at hSw); go_simp; try with_reducible rfl
    simp only [Act.put, List.setIfInBounds_toArray, List.set_cons_zero, List.set_cons_succ]
    refine wpAnyH_take (i := 6) (oi := { dst := some 25, op := Go.Op.move (Go.Operand.tmp 4), type := 39, pos := "laws.go:336", after := #[], guard := none }) (v := ?_) rfl (by kernel_rfl) (by kernel_rfl) (by kernel_rfl) (fun _ _ _ h => h) (Or.inl ⟨by kernel_rfl, ?_⟩) (by assumption) ?_
    rotate_left
    · intro w hSw; (try dsimp only at hSw); go_simp; try with_reducible rfl
    simp only [Act.put, List.setIfInBounds_toArray, List.set_cons_zero, List.set_cons_succ]
    refine wpAnyH_take (i := 7) (oi := { dst := some 26, op := Go.Op.indexAddr 39 (Go.Operand.tmp 25) (Go.Operand.const (Go.Value.int Go.IntKind.i64 1)), type := 0, pos := "laws.go:336", after := #[{ on := 6, ground := Go.Ground.data }], guard := none }) (v := ?_) rfl (by kernel_rfl) (by kernel_rfl) (by kernel_rfl) (fun _ _ _ h => h) (Or.inl ⟨by kernel_rfl, ?_⟩) (by assumption) ?_
    rotate_left
    · intro w hSw; (try dsimp only at hSw); go_simp; try with_reducible rfl
    simp only [Act.put, List.setIfInBounds_toArray, List.set_cons_zero, List.set_cons_succ]
    refine wpAnyH_take (i := 8) (oi := { dst := some 27, op := Go.Op.load 3 (Go.Operand.tmp 26), type := 3, pos := "laws.go:336", after := #[{ on := 7, ground := Go.Ground.data }], guard := none }) (v := ?_) rfl (by kernel_rfl) (by kernel_rfl) (by kernel_rfl) (fun _ _ _ h => h) (Or.inl ⟨by kernel_rfl, ?_⟩) (by assumption) ?_
    rotate_left
    · intro w hSw; (try dsimp only at hSw); go_simp; try with_reducible rfl
    simp only [Act.put, List.setIfInBounds_toArray, List.set_cons_zero, List.set_cons_succ]
    refine wpAnyH_take (i := 9) (oi := { dst := some 28, op := Go.Op.binOp Go.BinOp.rem 3 (Go.Operand.tmp 27) (Go.Operand.const (Go.Value.int Go.IntKind.i64 4)) 3, type := 3, pos := "laws.go:336", after := #[{ on := 8, ground := Go.Ground.data }], guard := none }) (v := ?_) rfl (by kernel_rfl) (by kernel_rfl) (by kernel_rfl) (fun _ _ _ h => h) (Or.inl ⟨by kernel_rfl, ?_⟩) (by assumption) ?_
    rotate_left
    · intro w hSw; (try dsimp only at hSw); go_simp; try with_reducible rfl
    simp only [Act.put, List.setIfInBounds_toArray, List.set_cons_zero, List.set_cons_succ]
    refine wpAnyH_take (i := 10) (oi := { dst := some 29, op := Go.Op.binOp Go.BinOp.add 3 (Go.Operand.const (Go.Value.int Go.IntKind.i64 97)) (Go.Operand.tmp 28) 3, type := 3, pos := "laws.go:336", after := #[{ on := 9, ground := Go.Ground.data }], guard := none }) (v := ?_) rfl (by kernel_rfl) (by kernel_rfl) (by kernel_rfl) (fun _ _ _ h => h) (Or.inl ⟨by kernel_rfl, ?_⟩) (by assumption) ?_
    rotate_left
    · intro w hSw; (try dsimp only at hSw); go_simp; try with_reducible rfl
    simp only [Act.put, List.setIfInBounds_toArray, List.set_cons_zero, List.set_cons_succ]
    refine wpAnyH_take (i := 11) (oi := { dst := some 30, op := Go.Op.convert 3 5 (Go.Operand.tmp 29), type := 5, pos := "laws.go:336", after := #[{ on := 10, ground := Go.Ground.data }], guard := none }) (v := ?_) rfl (by kernel_rfl) (by kernel_rfl) (by kernel_rfl) (fun _ _ _ h => h) (Or.inl ⟨by kernel_rfl, ?_⟩) (by assumption) ?_
    rotate_left
    · intro w hSw; (try dsimp only at hSw); go_simp; try with_reducible rfl
    simp only [Act.put, List.setIfInBounds_toArray, List.set_cons_zero, List.set_cons_succ]
    refine wpAnyH_take (i := 12) (oi := { dst := some 31, op := Go.Op.move (Go.Operand.tmp 4), type := 39, pos := "laws.go:336", after := #[], guard := none }) (v := ?_) rfl (by kernel_rfl) (by kernel_rfl) (by kernel_rfl) (fun _ _ _ h => h) (Or.inl ⟨by kernel_rfl, ?_⟩) (by assumption) ?_
    rotate_left
    · intro w hSw; (try dsimp only at hSw); go_simp; try with_reducible rfl
    simp only [Act.put, List.setIfInBounds_toArray, List.set_cons_zero, List.set_cons_succ]
    refine wpAnyH_take (i := 13) (oi := { dst := some 32, op := Go.Op.indexAddr 39 (Go.Operand.tmp 31) (Go.Operand.const (Go.Value.int Go.IntKind.i64 2)), type := 0, pos := "laws.go:336", after := #[{ on := 12, ground := Go.Ground.data }], guard := none }) (v := ?_) rfl (by kernel_rfl) (by kernel_rfl) (by kernel_rfl) (fun _ _ _ h => h) (Or.inl ⟨by kernel_rfl, ?_⟩) (by assumption) ?_
    rotate_left
    · intro w hSw; (try dsimp only at hSw); go_simp; try with_reducible rfl
    simp only [Act.put, List.setIfInBounds_toArray, List.set_cons_zero, List.set_cons_succ]
    refine wpAnyH_take (i := 14) (oi := { dst := some 33, op := Go.Op.load 3 (Go.Operand.tmp 32), type := 3, pos := "laws.go:336", after := #[{ on := 13, ground := Go.Ground.data }], guard := none }) (v := ?_) rfl (by kernel_rfl) (by kernel_rfl) (by kernel_rfl) (fun _ _ _ h => h) (Or.inl ⟨by kernel_rfl, ?_⟩) (by assumption) ?_
    rotate_left
    · intro w hSw; (try dsimp only at hSw); go_simp; try with_reducible rfl
    simp only [Act.put, List.setIfInBounds_toArray, List.set_cons_zero, List.set_cons_succ]
    refine wpAnyH_take (i := 15) (oi := { dst := some 34, op := Go.Op.fieldAddr 37 (Go.Operand.tmp 3) 0, type := 0, pos := "laws.go:336", after := #[], guard := none }) (v := ?_) rfl (by kernel_rfl) (by kernel_rfl) (by kernel_rfl) (fun _ _ _ h => h) (Or.inl ⟨by kernel_rfl, ?_⟩) (by assumption) ?_
    rotate_left
    · intro w hSw; (try dsimp only at hSw); go_simp; try with_reducible rfl
    simp only [Act.put, List.setIfInBounds_toArray, List.set_cons_zero, List.set_cons_succ]
    refine wpAnyH_take (i := 16) (oi := { dst := some 35, op := Go.Op.load 3 (Go.Operand.tmp 34), type := 3, pos := "laws.go:336", after := #[{ on := 15, ground := Go.Ground.data }], guard := none }) (v := ?_) rfl (by kernel_rfl) (by kernel_rfl) (by kernel_rfl) (fun _ _ _ h => h) (Or.inl ⟨by kernel_rfl, ?_⟩) (by assumption) ?_
    rotate_left
    · intro w hSw; (try dsimp only at hSw); go_simp; try with_reducible rfl
    simp only [Act.put, List.setIfInBounds_toArray, List.set_cons_zero, List.set_cons_succ]
    refine wpAnyH_take (i := 17) (oi := { dst := some 36, op := Go.Op.binOp Go.BinOp.rem 3 (Go.Operand.tmp 33) (Go.Operand.tmp 35) 3, type := 3, pos := "laws.go:336", after := #[{ on := 14, ground := Go.Ground.data }, { on := 16, ground := Go.Ground.data }], guard := none }) (v := ?_) rfl (by kernel_rfl) (by kernel_rfl) (by kernel_rfl) (fun _ _ _ h => h) (Or.inl ⟨by kernel_rfl, ?_⟩) (by assumption) ?_
    rotate_left
    · intro w hSw; (try dsimp only at hSw); go_simp; try with_reducible rfl
    simp only [Act.put, List.setIfInBounds_toArray, List.set_cons_zero, List.set_cons_succ]
    refine wpAnyH_take (i := 18) (oi := { dst := some 37, op := Go.Op.build 42 #[(0, Go.Operand.tmp 24), (1, Go.Operand.tmp 30), (2, Go.Operand.tmp 36)], type := 42, pos := "laws.go:336", after := #[{ on := 5, ground := Go.Ground.data }, { on := 11, ground := Go.Ground.data }, { on := 17, ground := Go.Ground.data }], guard := none }) (v := ?_) rfl (by kernel_rfl) (by kernel_rfl) (by kernel_rfl) (fun _ _ _ h => h) (Or.inl ⟨by kernel_rfl, ?_⟩) (by assumption) ?_
    rotate_left
    · intro w hSw; (try dsimp only at hSw); go_simp; try with_reducible rfl
    simp only [Act.put, List.setIfInBounds_toArray, List.set_cons_zero, List.set_cons_succ]
    refine wpAnyH_ready (rs := [19]) (by kernel_rfl) (by simp) ?_
    refine AllReadyH.cons (o := { dst := some 5, op := Go.Op.alloc 42, type := 0, pos := "laws.go:336", after := #[], guard := none }) rfl (fun K hK => ?_) ?_
    · go_simp
      have hk1 := HK5.out (w2.alloc (.cells #[.int .i64 0, .int .u8 0, .int .i64 0] 42)).drew ((below1 w2 _).drew)
      refine hK.out _ _ hk1 (fun hHeld => ?_)
      clear hK K
      try simp only [Act.put, List.setIfInBounds_toArray, List.set_cons_zero, List.set_cons_succ]
      refine wpAnyH_ready (rs := [20]) (by kernel_rfl) (by simp) ?_
      refine AllReadyH.cons (o := { dst := none, op := Go.Op.store 42 (Go.Operand.tmp 5) (Go.Operand.tmp 37), type := 0, pos := "laws.go:336", after := #[{ on := 19, ground := Go.Ground.data }, { on := 18, ground := Go.Ground.data }, { on := 0, ground := Go.Ground.phase }, { on := 1, ground := Go.Ground.phase }, { on := 2, ground := Go.Ground.phase }, { on := 3, ground := Go.Ground.phase }, { on := 4, ground := Go.Ground.phase }, { on := 5, ground := Go.Ground.phase }, { on := 6, ground := Go.Ground.phase }, { on := 7, ground := Go.Ground.phase }, { on := 8, ground := Go.Ground.phase }, { on := 9, ground := Go.Ground.phase }, { on := 10, ground := Go.Ground.phase }, { on := 11, ground := Go.Ground.phase }, { on := 12, ground := Go.Ground.phase }, { on := 13, ground := Go.Ground.phase }, { on := 14, ground := Go.Ground.phase }, { on := 15, ground := Go.Ground.phase }, { on := 16, ground := Go.Ground.phase }, { on := 17, ground := Go.Ground.phase }, { on := 18, ground := Go.Ground.phase }, { on := 19, ground := Go.Ground.phase }], guard := none }) rfl (fun K hK => ?_) ?_
      · go_simp
        have hk2 := HK5.out (w2.alloc (.cells #[.int .i64 (z0.tmod s), .int .u8 (IntKind.u8.wrap (IntKind.i64.wrap (97 + z1.tmod 4))), .int .i64 (z2.tmod s)] 42)).drew ((below1 w2 _).drew)
        refine hK.out _ _ hk2 (fun hHeld => ?_)
        clear hK K
        try simp only [Act.put, List.setIfInBounds_toArray, List.set_cons_zero, List.set_cons_succ]
        refine wpAnyH_done (by kernel_rfl) ?_ _
        clear hHeld hk1 hk2
        go_wp2_with fail
        go_meet
        case rel => exact ⟨_, z0.tmod s, IntKind.u8.wrap (IntKind.i64.wrap (97 + z1.tmod 4)), z2.tmod s, rfl, edge_ok hz0 hz1 hz2 hs2 hs5, E5.fresh w2 _ _ _⟩
      exact AllReadyH.nil
    exact AllReadyH.nil
  case rest =>
    obtain ⟨P5, f, lb, tt, rfl, HOE, HE5⟩ := hcut
    obtain ⟨w5, rfl⟩ : ∃ z, z = wc := ⟨_, rfl⟩
    clear q0 y0 y1 y2 HK5 hsz hs0 hs1 hz0 hz1 hz2 hz0' hz1' hz2'
    have HD5 : Hid (Hold w w5 [(P5, [.int .i64 f, .int .u8 lb, .int .i64 tt]), (P3, [.int .i64 s, .slice a n c])]) := HD2.out.also3 HE5.out
    have HEL5 : Hid (EdgesIn 0 P3 w5 a L) := HE2.out.below HE5.out.bel HP3X.out
    have HP35 : Hid (P3 ≤ w5.heap.size) := Nat.le_trans HP3X.out HE5.out.bel.size
    obtain ⟨KL, HK⟩ : ∃ KL, Hid (KL = putE L (f, lb, tt)) := ⟨_, rfl⟩
    have hsrt := (okG_iff.1 HOL.out).2.2.2
    have HKO : Hid (okG s KL = true) := by
      show _ = _
      rw [HK.out]
      refine okG_iff.2 ⟨⟨by omega, by omega⟩, ?_, fun y hy => ?_, srt_putE hsrt _⟩
      · have := putE_len L (f, lb, tt); have := HLN.out; have := HN10.out; omega
      · rcases mem_putE.1 hy with rfl | hy
        · exact HOE.out
        · exact (okG_iff.1 HOL.out).2.2.1 y hy
    have HA1 : Hid (gaddOk s L (f, lb, tt) = true ∧ gaddL s L (f, lb, tt) = KL) := by
      have h1 : gaddOk s L (f, lb, tt) = true := by unfold gaddOk; rw [HOL.out, ← HK.out, HKO.out]; rfl
      exact ⟨h1, by unfold gaddL; rw [if_pos h1, HK.out]⟩
    have HPK : Hid (putE KL (f, lb, tt) = KL) := putE_had (okG_iff.1 HKO.out).2.2.2 (by rw [HK.out]; exact mem_putE.2 (.inl rfl))
    have HA2 : Hid (gaddOk s KL (f, lb, tt) = true ∧ gaddL s KL (f, lb, tt) = KL) := by
      have h1 : gaddOk s KL (f, lb, tt) = true := by unfold gaddOk; rw [HPK.out, HKO.out]; rfl
      exact ⟨h1, by unfold gaddL; rw [if_pos h1, HPK.out]⟩
    have HMK : Hid (∀ x0 x1 x2, (x0, x1, x2) ∈ L → x2 ∈ nextE KL x0 x1) := fun x0 x1 x2 h => by rw [nextE_mem, HK.out]; exact mem_putE.2 (.inr h)
    have HME : Hid (tt ∈ nextE KL f lb) := by show _ ∈ _; rw [nextE_mem, HK.out]; exact mem_putE.2 (.inl rfl)
    obtain ⟨Q, HQ⟩ : ∃ Q, Hid (Q = decide (tt ∈ nextE L f lb)) := ⟨_, rfl⟩
    have HQY : Hid (Q = true → KL.length = n) := fun h => by
      have h2 : (f, lb, tt) ∈ L := nextE_mem.1 (of_decide_eq_true (HQ.out.symm.trans h))
      rw [HK.out, putE_had hsrt h2]; exact HLN.out
    have HQN : Hid (Q = false → KL.length = n + 1) := fun h => by
      have h2 : ¬ (f, lb, tt) ∈ L := fun h3 => of_decide_eq_false (HQ.out.symm.trans h) (nextE_mem.2 h3)
      rw [HK.out, put_len_new hsrt h2, HLN.out]
    have HKL : Hid (KL.length ≤ 11) := by show _ ≤ _; rw [HK.out]; have := putE_len L (f, lb, tt); have := HLN.out; have := HN10.out; omega
    clear hsrt HPK HK HD2 HE2 HP3X HE5 HOE
    have c0 : w5.cell? ⟨P3, 0, none⟩ = some (.int .i64 s) := HD5.out.cell (b := P3) (vs := [.int .i64 s, .slice a n c]) (i := 0) (by simp) (by simp)
    have c1 : w5.cell? ⟨P3, 1, none⟩ = some (.slice a n c) := HD5.out.cell (b := P3) (vs := [.int .i64 s, .slice a n c]) (i := 1) (by simp) (by simp)
    have c2 : w5.cell? ⟨P5, 0, none⟩ = some (.int .i64 f) := HD5.out.cell (b := P5) (vs := [.int .i64 f, .int .u8 lb, .int .i64 tt]) (i := 0) (by simp) (by simp)
    have c3 : w5.cell? ⟨P5, 1, none⟩ = some (.int .u8 lb) := HD5.out.cell (b := P5) (vs := [.int .i64 f, .int .u8 lb, .int .i64 tt]) (i := 1) (by simp) (by simp)
    have c4 : w5.cell? ⟨P5, 2, none⟩ = some (.int .i64 tt) := HD5.out.cell (b := P5) (vs := [.int .i64 f, .int .u8 lb, .int .i64 tt]) (i := 2) (by simp) (by simp)
    go_wp2_with fail
    refine (graphAdd_any 0 P3 s a n c L (f, lb, tt) w5 HEL5.out HP35.out HLN.out (by have := HN10.out; omega)).mono ?_
    rintro e w6 ⟨a6, n6, c6, ok6, rfl, HOK6, HKN, HE6, HB6⟩
    rw [HA1.out.2] at HKN HE6
    obtain rfl : ok6 = true := HOK6.out.trans HA1.out.1
    obtain ⟨P6, HP6⟩ : ∃ P6, Hid (w6.heap.size = P6) := ⟨_, rfl⟩
    have HN6 : Hid (n6 ≤ 11) := by show _ ≤ _; rw [← HKN.out]; exact HKL.out
    obtain ⟨W6, HW6⟩ : ∃ W6, Hid (W6 = w6.alloc (.cells #[.int .i64 s, .slice a6 n6 c6] 37)) := ⟨_, rfl⟩
    have HD6 : Hid (Hold w W6 [(P6, [.int .i64 s, .slice a6 n6 c6]), (P5, [.int .i64 f, .int .u8 lb, .int .i64 tt]), (P3, [.int .i64 s, .slice a n c])]) := by
      have h := (HD5.out.below HB6.out).more [.int .i64 s, .slice a6 n6 c6] 37
      rw [HP6.out, ← HW6.out] at h; exact h
    have HEL6 : Hid (EdgesIn 0 P3 W6 a L) := by rw [HW6.out]; exact (HEL5.out.below HB6.out HP35.out).below (below1 w6 _) (Nat.le_trans HP35.out HB6.out.size)
    have HEK6 : Hid (EdgesIn 0 P6 W6 a6 KL) := by rw [HW6.out, ← HP6.out]; exact (HE6.out.toIn.below (below1 w6 _) (Nat.le_refl _)).wide (Nat.zero_le _) (Nat.le_refl _)
    have HLT6 : Hid (P3 ≤ W6.heap.size ∧ P6 ≤ W6.heap.size) := by
      have h1 := HP35.out; have h2 := HB6.out.size; have h3 := HP6.out
      refine ⟨?_, ?_⟩ <;> rw [HW6.out] <;> simp <;> omega
    clear HD5 HEL5 HE6 HB6 HP35 HOK6 HA1 c0 c1 c2 c3 c4
    have d0 : W6.cell? ⟨P6, 0, none⟩ = some (.int .i64 s) := HD6.out.cell (b := P6) (vs := [.int .i64 s, .slice a6 n6 c6]) (i := 0) (by simp) (by simp)
    have d1 : W6.cell? ⟨P6, 1, none⟩ = some (.slice a6 n6 c6) := HD6.out.cell (b := P6) (vs := [.int .i64 s, .slice a6 n6 c6]) (i := 1) (by simp) (by simp)
    have d2 : W6.cell? ⟨P5, 0, none⟩ = some (.int .i64 f) := HD6.out.cell (b := P5) (vs := [.int .i64 f, .int .u8 lb, .int .i64 tt]) (i := 0) (by simp) (by simp)
    have d3 : W6.cell? ⟨P5, 1, none⟩ = some (.int .u8 lb) := HD6.out.cell (b := P5) (vs := [.int .i64 f, .int .u8 lb, .int .i64 tt]) (i := 1) (by simp) (by simp)
    have d4 : W6.cell? ⟨P5, 2, none⟩ = some (.int .i64 tt) := HD6.out.cell (b := P5) (vs := [.int .i64 f, .int .u8 lb, .int .i64 tt]) (i := 2) (by simp) (by simp)
    go_upto_region 7 with fail
    rw [HP6.out, ← HW6.out]
    go_wp2_with fail
    refine (graphAdd_any 0 P6 s a6 n6 c6 KL (f, lb, tt) W6 HEK6.out HLT6.out.2 HKN.out (by have := HN6.out; omega)).mono ?_
    rintro e w8 ⟨a8, n8, c8, ok8, rfl, HOK8, HKN8, HE8, HB8⟩
    rw [HA2.out.2] at HKN8 HE8
    obtain rfl : ok8 = true := HOK8.out.trans HA2.out.1
    obtain rfl : n8 = n6 := HKN8.out.symm.trans HKN.out
    obtain ⟨n6, rfl⟩ : ∃ z, z = n8 := ⟨_, rfl⟩
    obtain ⟨P8, HP8⟩ : ∃ P8, Hid (w8.heap.size = P8) := ⟨_, rfl⟩
    obtain ⟨W8, HW8⟩ : ∃ W8, Hid (W8 = w8.alloc (.cells #[.int .i64 s, .slice a8 n6 c8] 37)) := ⟨_, rfl⟩
    have HGS : Hid (GS w W8 P3 P5 P6 P8 s f lb tt a a6 a8 n c n6 c6 c8 L KL) := by
      have h1 := HLT6.out; have h2 := HB8.out.size; have h3 := HP8.out
      refine ⟨?_, ?_, ?_, ?_, ?_⟩
      · have h := (HD6.out.below HB8.out).more [.int .i64 s, .slice a8 n6 c8] 37
        rw [HP8.out, ← HW8.out] at h; exact h
      · rw [HW8.out]; exact (HEL6.out.below HB8.out h1.1).below (below1 w8 _) (by omega)
      · rw [HW8.out]; exact (HEK6.out.below HB8.out h1.2).below (below1 w8 _) (by omega)
      · rw [HW8.out, ← HP8.out]; exact (HE8.out.toIn.below (below1 w8 _) (Nat.le_refl _)).wide (Nat.zero_le _) (Nat.le_refl _)
      · refine ⟨?_, ?_, ?_⟩ <;> rw [HW8.out] <;> simp <;> omega
    clear HD6 HEL6 HEK6 HE8 HB8 HLT6 HOK8 HA2 HKN8 d0 d1 d2 d3 d4
    go_upto_region 8 with fail
    rw [HP8.out, ← HW8.out]
    obtain ⟨q0, q1, q2, q3, q4, q5, q6, q7, q8⟩ := HGS.out.cells
    have HK8 : Hid (∀ w', Below W8.heap.size W8 w' → (w'.cell? ⟨P3, 0, none⟩ = some (.int .i64 s) ∧ w'.cell? ⟨P3, 1, none⟩ = some (.slice a n c) ∧ w'.cell? ⟨P5, 0, none⟩ = some (.int .i64 f) ∧ w'.cell? ⟨P5, 1, none⟩ = some (.int .u8 lb) ∧ w'.cell? ⟨P5, 2, none⟩ = some (.int .i64 tt) ∧ w'.cell? ⟨P6, 0, none⟩ = some (.int .i64 s) ∧ w'.cell? ⟨P6, 1, none⟩ = some (.slice a6 n6 c6) ∧ w'.cell? ⟨P8, 0, none⟩ = some (.int .i64 s) ∧ w'.cell? ⟨P8, 1, none⟩ = some (.slice a8 n6 c8))) := fun w' h => ⟨cell_below q0 h (lt_of_cell q0), cell_below q1 h (lt_of_cell q1), cell_below q2 h (lt_of_cell q2), cell_below q3 h (lt_of_cell q3), cell_below q4 h (lt_of_cell q4), cell_below q5 h (lt_of_cell q5), cell_below q6 h (lt_of_cell q6), cell_below q7 h (lt_of_cell q7), cell_below q8 h (lt_of_cell q8)⟩
    go_cut [10] (fun q wc => q = .bool Q ∧ Hid (Below W8.heap.size W8 wc))
    case first =>
      refine wp_region_held_drew (S := fun w' => w'.cell? ⟨P3, 0, none⟩ = some (.int .i64 s) ∧ w'.cell? ⟨P3, 1, none⟩ = some (.slice a n c) ∧ w'.cell? ⟨P5, 0, none⟩ = some (.int .i64 f) ∧ w'.cell? ⟨P5, 1, none⟩ = some (.int .u8 lb) ∧ w'.cell? ⟨P5, 2, none⟩ = some (.int .i64 tt) ∧ w'.cell? ⟨P6, 0, none⟩ = some (.int .i64 s) ∧ w'.cell? ⟨P6, 1, none⟩ = some (.slice a6 n6 c6) ∧ w'.cell? ⟨P8, 0, none⟩ = some (.int .i64 s) ∧ w'.cell? ⟨P8, 1, none⟩ = some (.slice a8 n6 c8)) (by kernel_rfl) ⟨q0, q1, q2, q3, q4, q5, q6, q7, q8⟩ (fun hHeld => ?_)
      clear q0 q1 q2 q3 q4 q5 q6 q7 q8
      refine wpAnyH_take (i := 0) (oi := { dst := some 50, op := Go.Op.load 37 (Go.Operand.tmp 3), type := 37, pos := "laws.go:339", after := #[], guard := none }) (v := ?_) rfl (by kernel_rfl) (by kernel_rfl) (by kernel_rfl) (fun _ _ _ h => h) (Or.inl ⟨by kernel_rfl, ?_⟩) (by assumption) ?_
      rotate_left
      · intro w hSw; (try dsimp only at hSw); go_simp; try with_reducible rfl
      simp only [Act.put, List.setIfInBounds_toArray, List.set_cons_zero, List.set_cons_succ]
      refine wpAnyH_take (i := 1) (oi := { dst := some 51, op := Go.Op.fieldAddr 42 (Go.Operand.tmp 5) 0, type := 0, pos := "laws.go:339", after := #[], guard := none }) (v := ?_) rfl (by kernel_rfl) (by kernel_rfl) (by kernel_rfl) (fun _ _ _ h => h) (Or.inl ⟨by kernel_rfl, ?_⟩) (by assumption) ?_
      rotate_left
      · intro w hSw; (try dsimp only at hSw); go_simp; try with_reducible rfl
      simp only [Act.put, List.setIfInBounds_toArray, List.set_cons_zero, List.set_cons_succ]
      refine wpAnyH_take (i := 2) (oi := { dst := some 52, op := Go.Op.load 3 (Go.Operand.tmp 51), type := 3, pos := "laws.go:339", after := #[{ on := 1, ground := Go.Ground.data }], guard := none }) (v := ?_) rfl (by kernel_rfl) (by kernel_rfl) (by kernel_rfl) (fun _ _ _ h => h) (Or.inl ⟨by kernel_rfl, ?_⟩) (by assumption) ?_
      rotate_left
      · intro w hSw; (try dsimp only at hSw); go_simp; try with_reducible rfl
      simp only [Act.put, List.setIfInBounds_toArray, List.set_cons_zero, List.set_cons_succ]
      refine wpAnyH_take (i := 3) (oi := { dst := some 53, op := Go.Op.fieldAddr 42 (Go.Operand.tmp 5) 1, type := 0, pos := "laws.go:339", after := #[], guard := none }) (v := ?_) rfl (by kernel_rfl) (by kernel_rfl) (by kernel_rfl) (fun _ _ _ h => h) (Or.inl ⟨by kernel_rfl, ?_⟩) (by assumption) ?_
      rotate_left
      · intro w hSw; (try dsimp only at hSw); go_simp; try with_reducible rfl
      simp only [Act.put, List.setIfInBounds_toArray, List.set_cons_zero, List.set_cons_succ]
      refine wpAnyH_take (i := 4) (oi := { dst := some 54, op := Go.Op.load 5 (Go.Operand.tmp 53), type := 5, pos := "laws.go:339", after := #[{ on := 3, ground := Go.Ground.data }], guard := none }) (v := ?_) rfl (by kernel_rfl) (by kernel_rfl) (by kernel_rfl) (fun _ _ _ h => h) (Or.inl ⟨by kernel_rfl, ?_⟩) (by assumption) ?_
      rotate_left
      · intro w hSw; (try dsimp only at hSw); go_simp; try with_reducible rfl
      simp only [Act.put, List.setIfInBounds_toArray, List.set_cons_zero, List.set_cons_succ]
      refine wpAnyH_take (i := 6) (oi := { dst := some 56, op := Go.Op.fieldAddr 42 (Go.Operand.tmp 5) 2, type := 0, pos := "laws.go:339", after := #[], guard := none }) (v := ?_) rfl (by kernel_rfl) (by kernel_rfl) (by kernel_rfl) (fun _ _ _ h => h) (Or.inl ⟨by kernel_rfl, ?_⟩) (by assumption) ?_
      rotate_left
      · intro w hSw; (try dsimp only at hSw); go_simp; try with_reducible rfl
      simp only [Act.put, List.setIfInBounds_toArray, List.set_cons_zero, List.set_cons_succ]
      refine wpAnyH_take (i := 7) (oi := { dst := some 57, op := Go.Op.load 3 (Go.Operand.tmp 56), type := 3, pos := "laws.go:339", after := #[{ on := 6, ground := Go.Ground.data }], guard := none }) (v := ?_) rfl (by kernel_rfl) (by kernel_rfl) (by kernel_rfl) (fun _ _ _ h => h) (Or.inl ⟨by kernel_rfl, ?_⟩) (by assumption) ?_
      rotate_left
      · intro w hSw; (try dsimp only at hSw); go_simp; try with_reducible rfl
      simp only [Act.put, List.setIfInBounds_toArray, List.set_cons_zero, List.set_cons_succ]
      refine wpAnyH_ready (rs := [5]) (by kernel_rfl) (by simp) ?_
      refine AllReadyH.cons (o := { dst := some 55, op := Go.Op.call { callee := Go.Callee.value (Go.Operand.func 27), args := #[Go.Operand.tmp 50, Go.Operand.tmp 52, Go.Operand.tmp 54], argTypes := #[37, 3, 5] }, type := 39, pos := "laws.go:339", after := #[{ on := 0, ground := Go.Ground.data }, { on := 2, ground := Go.Ground.data }, { on := 4, ground := Go.Ground.data }], guard := none }) rfl (fun K hK => ?_) ?_
      · go_simp
        go_wp2_with (go_at_call 27; refine (specNext_any 0 P3 s a n c L f lb _ HGS.out.drew.eg HGS.out.lt.1 HLN.out (by have := HN10.out; omega)).mono ?_; rintro e v9 ⟨a9, n9, c9, rfl, HN9, HR9, C9⟩)
        have D9 : Hid (Below W8.heap.size W8 v9) := ((Below.refl W8.heap.size W8).drew).trans C9.out
        have hk_v9 := HK8.out _ D9.out
        refine hK.out _ _ hk_v9 (fun hHeld => ?_)
        clear hK K
        try simp only [Act.put, List.setIfInBounds_toArray, List.set_cons_zero, List.set_cons_succ]
        refine wpAnyH_ready (rs := [8]) (by kernel_rfl) (by simp) ?_
        refine AllReadyH.cons (o := { dst := some 58, op := Go.Op.call { callee := Go.Callee.value (Go.Operand.func 26), args := #[Go.Operand.tmp 55, Go.Operand.tmp 57], argTypes := #[39, 3] }, type := 4, pos := "laws.go:339", after := #[{ on := 5, ground := Go.Ground.data }, { on := 7, ground := Go.Ground.data }, { on := 5, ground := Go.Ground.chain }], guard := none }) rfl (fun K hK => ?_) ?_
        · go_simp
          go_wp2_with (go_at_call 26; refine (in_q _ _ a9 n9 c9 (nextE L f lb) tt Q v9 HR9.out.toIn HN9.out (by have := nextE_len L f lb; have := HN9.out; have := HLN.out; have := HN10.out; omega) HQ.out).mono ?_; rintro e v10 ⟨rfl, C10⟩)
          have D10 : Hid (Below W8.heap.size W8 v10) := D9.out.trans (C10.out.mono D9.out.size)
          have hk_v10 := HK8.out _ D10.out
          refine hK.out _ _ hk_v10 (fun hHeld => ?_)
          clear hK K
          try simp only [Act.put, List.setIfInBounds_toArray, List.set_cons_zero, List.set_cons_succ]
          refine wpAnyH_take (i := 9) (oi := { dst := some 10, op := Go.Op.assign (Go.Operand.tmp 58), type := 4, pos := "laws.go:339", after := #[{ on := 8, ground := Go.Ground.data }, { on := 8, ground := Go.Ground.chain }, { on := 0, ground := Go.Ground.phase }, { on := 1, ground := Go.Ground.phase }, { on := 2, ground := Go.Ground.phase }, { on := 3, ground := Go.Ground.phase }, { on := 4, ground := Go.Ground.phase }, { on := 5, ground := Go.Ground.phase }, { on := 6, ground := Go.Ground.phase }, { on := 7, ground := Go.Ground.phase }, { on := 8, ground := Go.Ground.phase }], guard := none }) (v := ?_) rfl (by kernel_rfl) (by kernel_rfl) (by kernel_rfl) (fun _ _ _ h => h) (Or.inl ⟨by kernel_rfl, ?_⟩) (by assumption) ?_
          rotate_left
          · intro w hSw; (try dsimp only at hSw); go_simp; try with_reducible rfl
          simp only [Act.put, List.setIfInBounds_toArray, List.set_cons_zero, List.set_cons_succ]
          refine wpAnyH_done (by kernel_rfl) ?_ _
          clear hHeld
          go_wp2_with fail
          go_meet
          case rel => exact ⟨rfl, D10⟩
        exact AllReadyH.nil
      exact AllReadyH.nil
    case rest =>
      obtain ⟨rfl, HB9⟩ := hcut
      obtain ⟨w9, rfl⟩ : ∃ z, z = wc := ⟨_, rfl⟩
      have HG9 : Hid (GS w w9 P3 P5 P6 P8 s f lb tt a a6 a8 n c n6 c6 c8 L KL) := HGS.out.below HB9.out
      clear q0 q1 q2 q3 q4 q5 q6 q7 q8 HK8 HGS HB9 HW8 HW6
      go_wp2
      go_loopw [11] (fun i wr => ∃ k : Nat, i = .int .i64 k ∧ k ≤ n ∧ Hid (GS w wr P3 P5 P6 P8 s f lb tt a a6 a8 n c n6 c6 c8 L KL)) (fun i _ => n - (intOf i).toNat)
      case atStart => exact ⟨0, rfl, by omega, HG9⟩
      case round =>
        obtain ⟨k, rfl, hk, HGR⟩ := hrel
        clear HG9
        obtain ⟨q0, q1, q2, q3, q4, q5, q6, q7, q8⟩ := HGR.out.cells
        by_cases hlt : k < n
        · have hlt1 : (k : Int) < (n : Int) := by omega
          have hlt0 : (0 : Int) ≤ (k : Int) := by omega
          obtain ⟨b, o, rfl, _, _, hx⟩ := HGR.out.eg.edge (k := k) (by rw [HLN.out]; exact hlt)
          obtain ⟨x, HXX⟩ : ∃ x : Ed, Hid (x = eat L k) := ⟨_, rfl⟩
          rw [← HXX.out] at hx
          have HMEM0 : Hid (x ∈ L) := by rw [HXX.out, eat_get (by rw [HLN.out]; exact hlt)]; exact List.getElem_mem _
          obtain ⟨x0, x1, x2⟩ := x
          have HMEM : Hid (x2 ∈ nextE KL x0 x1) := HMK.out x0 x1 x2 HMEM0.out
          obtain ⟨p0, p1, p2⟩ := hx
          dsimp only at p0 p1 p2
          have HK12 : Hid (∀ w', Below wr.heap.size wr w' → (w'.cell? ⟨P3, 0, none⟩ = some (.int .i64 s) ∧ w'.cell? ⟨P3, 1, none⟩ = some (.slice (some ⟨b, o, none⟩) n c) ∧ w'.cell? ⟨P5, 0, none⟩ = some (.int .i64 f) ∧ w'.cell? ⟨P5, 1, none⟩ = some (.int .u8 lb) ∧ w'.cell? ⟨P5, 2, none⟩ = some (.int .i64 tt) ∧ w'.cell? ⟨P6, 0, none⟩ = some (.int .i64 s) ∧ w'.cell? ⟨P6, 1, none⟩ = some (.slice a6 n6 c6) ∧ w'.cell? ⟨P8, 0, none⟩ = some (.int .i64 s) ∧ w'.cell? ⟨P8, 1, none⟩ = some (.slice a8 n6 c8) ∧ w'.cell? ⟨b, o + k * 3, none⟩ = some (.int .i64 x0) ∧ w'.cell? ⟨b, o + k * 3 + 1, none⟩ = some (.int .u8 x1) ∧ w'.cell? ⟨b, o + k * 3 + 2, none⟩ = some (.int .i64 x2))) := fun w' h => ⟨cell_below q0 h (lt_of_cell q0), cell_below q1 h (lt_of_cell q1), cell_below q2 h (lt_of_cell q2), cell_below q3 h (lt_of_cell q3), cell_below q4 h (lt_of_cell q4), cell_below q5 h (lt_of_cell q5), cell_below q6 h (lt_of_cell q6), cell_below q7 h (lt_of_cell q7), cell_below q8 h (lt_of_cell q8), cell_below p0 h (lt_of_cell p0), cell_below p1 h (lt_of_cell p1), cell_below p2 h (lt_of_cell p2)⟩
          clear HMEM0 HXX
          go_wp2_with fail
          refine wp_region_held_drew (S := fun w' => w'.cell? ⟨P3, 0, none⟩ = some (.int .i64 s) ∧ w'.cell? ⟨P3, 1, none⟩ = some (.slice (some ⟨b, o, none⟩) n c) ∧ w'.cell? ⟨P5, 0, none⟩ = some (.int .i64 f) ∧ w'.cell? ⟨P5, 1, none⟩ = some (.int .u8 lb) ∧ w'.cell? ⟨P5, 2, none⟩ = some (.int .i64 tt) ∧ w'.cell? ⟨P6, 0, none⟩ = some (.int .i64 s) ∧ w'.cell? ⟨P6, 1, none⟩ = some (.slice a6 n6 c6) ∧ w'.cell? ⟨P8, 0, none⟩ = some (.int .i64 s) ∧ w'.cell? ⟨P8, 1, none⟩ = some (.slice a8 n6 c8) ∧ w'.cell? ⟨b, o + k * 3, none⟩ = some (.int .i64 x0) ∧ w'.cell? ⟨b, o + k * 3 + 1, none⟩ = some (.int .u8 x1) ∧ w'.cell? ⟨b, o + k * 3 + 2, none⟩ = some (.int .i64 x2)) (by kernel_rfl) ⟨q0, q1, q2, q3, q4, q5, q6, q7, q8, p0, p1, p2⟩ (fun hHeld => ?_)
          clear q0 q1 q2 q3 q4 q5 q6 q7 q8 p0 p1 p2
          refine wpAnyH_take (i := 0) (oi := { dst := some 66, op := Go.Op.load 37 (Go.Operand.tmp 6), type := 37, pos := "laws.go:341", after := #[], guard := none }) (v := ?_) rfl (by kernel_rfl) (by kernel_rfl) (by kernel_rfl) (fun _ _ _ h => h) (Or.inl ⟨by kernel_rfl, ?_⟩) (by assumption) ?_
          rotate_left
          · intro w hSw; (try dsimp only at hSw); go_simp; try with_reducible rfl
          simp only [Act.put, List.setIfInBounds_toArray, List.set_cons_zero, List.set_cons_succ]
          refine wpAnyH_take (i := 1) (oi := { dst := some 67, op := Go.Op.fieldAddr 37 (Go.Operand.tmp 3) 1, type := 0, pos := "laws.go:341", after := #[], guard := none }) (v := ?_) rfl (by kernel_rfl) (by kernel_rfl) (by kernel_rfl) (fun _ _ _ h => h) (Or.inl ⟨by kernel_rfl, ?_⟩) (by assumption) ?_
          rotate_left
          · intro w hSw; (try dsimp only at hSw); go_simp; try with_reducible rfl
          simp only [Act.put, List.setIfInBounds_toArray, List.set_cons_zero, List.set_cons_succ]
          refine wpAnyH_take (i := 2) (oi := { dst := some 68, op := Go.Op.load 35 (Go.Operand.tmp 67), type := 35, pos := "laws.go:341", after := #[{ on := 1, ground := Go.Ground.data }], guard := none }) (v := ?_) rfl (by kernel_rfl) (by kernel_rfl) (by kernel_rfl) (fun _ _ _ h => h) (Or.inl ⟨by kernel_rfl, ?_⟩) (by assumption) ?_
          rotate_left
          · intro w hSw; (try dsimp only at hSw); go_simp; try with_reducible rfl
          simp only [Act.put, List.setIfInBounds_toArray, List.set_cons_zero, List.set_cons_succ]
          refine wpAnyH_take (i := 3) (oi := { dst := some 69, op := Go.Op.move (Go.Operand.tmp 11), type := 3, pos := "laws.go:341", after := #[], guard := none }) (v := ?_) rfl (by kernel_rfl) (by kernel_rfl) (by kernel_rfl) (fun _ _ _ h => h) (Or.inl ⟨by kernel_rfl, ?_⟩) (by assumption) ?_
          rotate_left
          · intro w hSw; (try dsimp only at hSw); go_simp; try with_reducible rfl
          simp only [Act.put, List.setIfInBounds_toArray, List.set_cons_zero, List.set_cons_succ]
          refine wpAnyH_take (i := 4) (oi := { dst := some 70, op := Go.Op.indexAddr 35 (Go.Operand.tmp 68) (Go.Operand.tmp 69), type := 0, pos := "laws.go:341", after := #[{ on := 2, ground := Go.Ground.data }, { on := 3, ground := Go.Ground.data }], guard := none }) (v := ?_) rfl (by kernel_rfl) (by kernel_rfl) (by kernel_rfl) (fun _ _ _ h => h) (Or.inl ⟨by kernel_rfl, ?_⟩) (by assumption) ?_
          rotate_left
          · intro w hSw; (try dsimp only at hSw); go_simp; try with_reducible rfl
          simp only [Act.put, List.setIfInBounds_toArray, List.set_cons_zero, List.set_cons_succ]
          refine wpAnyH_take (i := 5) (oi := { dst := some 71, op := Go.Op.fieldAddr 42 (Go.Operand.tmp 70) 0, type := 0, pos := "laws.go:341", after := #[{ on := 4, ground := Go.Ground.data }], guard := none }) (v := ?_) rfl (by kernel_rfl) (by kernel_rfl) (by kernel_rfl) (fun _ _ _ h => h) (Or.inl ⟨by kernel_rfl, ?_⟩) (by assumption) ?_
          rotate_left
          · intro w hSw; (try dsimp only at hSw); go_simp; try with_reducible rfl
          simp only [Act.put, List.setIfInBounds_toArray, List.set_cons_zero, List.set_cons_succ]
          refine wpAnyH_take (i := 6) (oi := { dst := some 72, op := Go.Op.load 3 (Go.Operand.tmp 71), type := 3, pos := "laws.go:341", after := #[{ on := 5, ground := Go.Ground.data }], guard := none }) (v := ?_) rfl (by kernel_rfl) (by kernel_rfl) (by kernel_rfl) (fun _ _ _ h => h) (Or.inl ⟨by kernel_rfl, ?_⟩) (by assumption) ?_
          rotate_left
          · intro w hSw; (try dsimp only at hSw); go_simp; try with_reducible rfl
          simp only [Act.put, List.setIfInBounds_toArray, List.set_cons_zero, List.set_cons_succ]
          refine wpAnyH_take (i := 7) (oi := { dst := some 73, op := Go.Op.fieldAddr 37 (Go.Operand.tmp 3) 1, type := 0, pos := "laws.go:341", after := #[], guard := none }) (v := ?_) rfl (by kernel_rfl) (by kernel_rfl) (by kernel_rfl) (fun _ _ _ h => h) (Or.inl ⟨by kernel_rfl, ?_⟩) (by assumption) ?_
          rotate_left
          · intro w hSw; (try dsimp only at hSw); go_simp; try with_reducible rfl
          simp only [Act.put, List.setIfInBounds_toArray, List.set_cons_zero, List.set_cons_succ]
          refine wpAnyH_take (i := 8) (oi := { dst := some 74, op := Go.Op.load 35 (Go.Operand.tmp 73), type := 35, pos := "laws.go:341", after := #[{ on := 7, ground := Go.Ground.data }], guard := none }) (v := ?_) rfl (by kernel_rfl) (by kernel_rfl) (by kernel_rfl) (fun _ _ _ h => h) (Or.inl ⟨by kernel_rfl, ?_⟩) (by assumption) ?_
          rotate_left
          · intro w hSw; (try dsimp only at hSw); go_simp; try with_reducible rfl
          simp only [Act.put, List.setIfInBounds_toArray, List.set_cons_zero, List.set_cons_succ]
          refine wpAnyH_take (i := 9) (oi := { dst := some 75, op := Go.Op.move (Go.Operand.tmp 11), type := 3, pos := "laws.go:341", after := #[], guard := none }) (v := ?_) rfl (by kernel_rfl) (by kernel_rfl) (by kernel_rfl) (fun _ _ _ h => h) (Or.inl ⟨by kernel_rfl, ?_⟩) (by assumption) ?_
          rotate_left
          · intro w hSw; (try dsimp only at hSw); go_simp; try with_reducible rfl
          simp only [Act.put, List.setIfInBounds_toArray, List.set_cons_zero, List.set_cons_succ]
          refine wpAnyH_take (i := 10) (oi := { dst := some 76, op := Go.Op.indexAddr 35 (Go.Operand.tmp 74) (Go.Operand.tmp 75), type := 0, pos := "laws.go:341", after := #[{ on := 8, ground := Go.Ground.data }, { on := 9, ground := Go.Ground.data }], guard := none }) (v := ?_) rfl (by kernel_rfl) (by kernel_rfl) (by kernel_rfl) (fun _ _ _ h => h) (Or.inl ⟨by kernel_rfl, ?_⟩) (by assumption) ?_
          rotate_left
          · intro w hSw; (try dsimp only at hSw); go_simp; try with_reducible rfl
          simp only [Act.put, List.setIfInBounds_toArray, List.set_cons_zero, List.set_cons_succ]
          refine wpAnyH_take (i := 11) (oi := { dst := some 77, op := Go.Op.fieldAddr 42 (Go.Operand.tmp 76) 1, type := 0, pos := "laws.go:341", after := #[{ on := 10, ground := Go.Ground.data }], guard := none }) (v := ?_) rfl (by kernel_rfl) (by kernel_rfl) (by kernel_rfl) (fun _ _ _ h => h) (Or.inl ⟨by kernel_rfl, ?_⟩) (by assumption) ?_
          rotate_left
          · intro w hSw; (try dsimp only at hSw); go_simp; try with_reducible rfl
          simp only [Act.put, List.setIfInBounds_toArray, List.set_cons_zero, List.set_cons_succ]
          refine wpAnyH_take (i := 12) (oi := { dst := some 78, op := Go.Op.load 5 (Go.Operand.tmp 77), type := 5, pos := "laws.go:341", after := #[{ on := 11, ground := Go.Ground.data }], guard := none }) (v := ?_) rfl (by kernel_rfl) (by kernel_rfl) (by kernel_rfl) (fun _ _ _ h => h) (Or.inl ⟨by kernel_rfl, ?_⟩) (by assumption) ?_
          rotate_left
          · intro w hSw; (try dsimp only at hSw); go_simp; try with_reducible rfl
          simp only [Act.put, List.setIfInBounds_toArray, List.set_cons_zero, List.set_cons_succ]
          refine wpAnyH_take (i := 14) (oi := { dst := some 80, op := Go.Op.fieldAddr 37 (Go.Operand.tmp 3) 1, type := 0, pos := "laws.go:341", after := #[], guard := none }) (v := ?_) rfl (by kernel_rfl) (by kernel_rfl) (by kernel_rfl) (fun _ _ _ h => h) (Or.inl ⟨by kernel_rfl, ?_⟩) (by assumption) ?_
          rotate_left
          · intro w hSw; (try dsimp only at hSw); go_simp; try with_reducible rfl
          simp only [Act.put, List.setIfInBounds_toArray, List.set_cons_zero, List.set_cons_succ]
          refine wpAnyH_take (i := 15) (oi := { dst := some 81, op := Go.Op.load 35 (Go.Operand.tmp 80), type := 35, pos := "laws.go:341", after := #[{ on := 14, ground := Go.Ground.data }], guard := none }) (v := ?_) rfl (by kernel_rfl) (by kernel_rfl) (by kernel_rfl) (fun _ _ _ h => h) (Or.inl ⟨by kernel_rfl, ?_⟩) (by assumption) ?_
          rotate_left
          · intro w hSw; (try dsimp only at hSw); go_simp; try with_reducible rfl
          simp only [Act.put, List.setIfInBounds_toArray, List.set_cons_zero, List.set_cons_succ]
          refine wpAnyH_take (i := 16) (oi := { dst := some 82, op := Go.Op.move (Go.Operand.tmp 11), type := 3, pos := "laws.go:341", after := #[], guard := none }) (v := ?_) rfl (by kernel_rfl) (by kernel_rfl) (by kernel_rfl) (fun _ _ _ h => h) (Or.inl ⟨by kernel_rfl, ?_⟩) (by assumption) ?_
          rotate_left
          · intro w hSw; (try dsimp only at hSw); go_simp; try with_reducible rfl
          simp only [Act.put, List.setIfInBounds_toArray, List.set_cons_zero, List.set_cons_succ]
          refine wpAnyH_take (i := 17) (oi := { dst := some 83, op := Go.Op.indexAddr 35 (Go.Operand.tmp 81) (Go.Operand.tmp 82), type := 0, pos := "laws.go:341", after := #[{ on := 15, ground := Go.Ground.data }, { on := 16, ground := Go.Ground.data }], guard := none }) (v := ?_) rfl (by kernel_rfl) (by kernel_rfl) (by kernel_rfl) (fun _ _ _ h => h) (Or.inl ⟨by kernel_rfl, ?_⟩) (by assumption) ?_
          rotate_left
          · intro w hSw; (try dsimp only at hSw); go_simp; try with_reducible rfl
          simp only [Act.put, List.setIfInBounds_toArray, List.set_cons_zero, List.set_cons_succ]
          refine wpAnyH_take (i := 18) (oi := { dst := some 84, op := Go.Op.fieldAddr 42 (Go.Operand.tmp 83) 2, type := 0, pos := "laws.go:341", after := #[{ on := 17, ground := Go.Ground.data }], guard := none }) (v := ?_) rfl (by kernel_rfl) (by kernel_rfl) (by kernel_rfl) (fun _ _ _ h => h) (Or.inl ⟨by kernel_rfl, ?_⟩) (by assumption) ?_
          rotate_left
          · intro w hSw; (try dsimp only at hSw); go_simp; try with_reducible rfl
          simp only [Act.put, List.setIfInBounds_toArray, List.set_cons_zero, List.set_cons_succ]
          refine wpAnyH_take (i := 19) (oi := { dst := some 85, op := Go.Op.load 3 (Go.Operand.tmp 84), type := 3, pos := "laws.go:341", after := #[{ on := 18, ground := Go.Ground.data }], guard := none }) (v := ?_) rfl (by kernel_rfl) (by kernel_rfl) (by kernel_rfl) (fun _ _ _ h => h) (Or.inl ⟨by kernel_rfl, ?_⟩) (by assumption) ?_
          rotate_left
          · intro w hSw; (try dsimp only at hSw); go_simp; try with_reducible rfl
          simp only [Act.put, List.setIfInBounds_toArray, List.set_cons_zero, List.set_cons_succ]
          refine wpAnyH_ready (rs := [13]) (by kernel_rfl) (by simp) ?_
          refine AllReadyH.cons (o := { dst := some 79, op := Go.Op.call { callee := Go.Callee.value (Go.Operand.func 28), args := #[Go.Operand.tmp 66, Go.Operand.tmp 72, Go.Operand.tmp 78], argTypes := #[37, 3, 5] }, type := 39, pos := "laws.go:341", after := #[{ on := 0, ground := Go.Ground.data }, { on := 6, ground := Go.Ground.data }, { on := 12, ground := Go.Ground.data }], guard := none }) rfl (fun K hK => ?_) ?_
          · go_simp
            go_wp2_with (go_at_call 28; refine (nextOf_any 0 P6 s a6 n6 c6 KL x0 x1 _ HGR.out.drew.en HGR.out.lt.2.1 HKN.out (by have := HN6.out; omega)).mono ?_; rintro e v3 ⟨a3, n3, c3, rfl, HN3, HR3, C3⟩)
            have D3 : Hid (Below wr.heap.size wr v3) := ((Below.refl wr.heap.size wr).drew).trans C3.out
            have hk_v3 := HK12.out _ D3.out
            refine hK.out _ _ hk_v3 (fun hHeld => ?_)
            clear hK K
            try simp only [Act.put, List.setIfInBounds_toArray, List.set_cons_zero, List.set_cons_succ]
            refine wpAnyH_ready (rs := [20]) (by kernel_rfl) (by simp) ?_
            refine AllReadyH.cons (o := { dst := some 86, op := Go.Op.call { callee := Go.Callee.value (Go.Operand.func 26), args := #[Go.Operand.tmp 79, Go.Operand.tmp 85], argTypes := #[39, 3] }, type := 4, pos := "laws.go:341", after := #[{ on := 13, ground := Go.Ground.data }, { on := 19, ground := Go.Ground.data }, { on := 13, ground := Go.Ground.chain }], guard := none }) rfl (fun K hK => ?_) ?_
            · go_simp
              go_wp2_with (go_at_call 26; refine (in_any _ _ a3 n3 c3 (nextE KL x0 x1) x2 v3 HR3.out.toIn HN3.out (by have := nextE_len KL x0 x1; have := HN3.out; have := HKN.out; have := HN6.out; omega) HMEM.out).mono ?_; rintro e v4 ⟨rfl, C4⟩)
              have D4 : Hid (Below wr.heap.size wr v4) := D3.out.trans (C4.out.mono D3.out.size)
              have hk_v4 := HK12.out _ D4.out
              refine hK.out _ _ hk_v4 (fun hHeld => ?_)
              clear hK K
              try simp only [Act.put, List.setIfInBounds_toArray, List.set_cons_zero, List.set_cons_succ]
              refine wpAnyH_take (i := 21) (oi := { dst := some 87, op := Go.Op.unOp Go.UnOp.not 4 (Go.Operand.tmp 86), type := 4, pos := "laws.go:341", after := #[{ on := 20, ground := Go.Ground.data }], guard := none }) (v := ?_) rfl (by kernel_rfl) (by kernel_rfl) (by kernel_rfl) (fun _ _ _ h => h) (Or.inl ⟨by kernel_rfl, ?_⟩) (by assumption) ?_
              rotate_left
              · intro w hSw; (try dsimp only at hSw); go_simp; try with_reducible rfl
              simp only [Act.put, List.setIfInBounds_toArray, List.set_cons_zero, List.set_cons_succ]
              refine wpAnyH_done (by kernel_rfl) ?_ _
              clear hHeld
              have hn10 : n ≤ 10 := HN10.out
              go_wp2
              go_roundw
              case rel => exact ⟨k + 1, by go_num, by omega, HGR.out.below D4.out⟩
              case measure => simp [intOf]; omega
            exact AllReadyH.nil
          exact AllReadyH.nil
        · have hlt1 : ¬ (k : Int) < (n : Int) := by omega
          have hn10 : n ≤ 10 := HN10.out
          obtain ⟨b, o, rfl, _, _, hx⟩ := HGR.out.eg.edge (k := 0) (by have := HN1.out; have := HLN.out; omega)
          obtain ⟨x, HXX⟩ : ∃ x : Ed, Hid (x = eat L 0) := ⟨_, rfl⟩
          rw [← HXX.out] at hx
          obtain ⟨y0, y1, y2⟩ := x
          obtain ⟨p0, p1, p2⟩ := hx
          simp only [Nat.zero_mul, Nat.add_zero] at p0 p1 p2
          have hn1 : (0 : Int) < (n : Int) := by have := HN1.out; omega
          have hn1n : 0 < n := HN1.out
          have HK17 : Hid (∀ w', Below wr.heap.size wr w' → (w'.cell? ⟨P3, 0, none⟩ = some (.int .i64 s) ∧ w'.cell? ⟨P3, 1, none⟩ = some (.slice (some ⟨b, o, none⟩) n c) ∧ w'.cell? ⟨P5, 0, none⟩ = some (.int .i64 f) ∧ w'.cell? ⟨P5, 1, none⟩ = some (.int .u8 lb) ∧ w'.cell? ⟨P5, 2, none⟩ = some (.int .i64 tt) ∧ w'.cell? ⟨P6, 0, none⟩ = some (.int .i64 s) ∧ w'.cell? ⟨P6, 1, none⟩ = some (.slice a6 n6 c6) ∧ w'.cell? ⟨P8, 0, none⟩ = some (.int .i64 s) ∧ w'.cell? ⟨P8, 1, none⟩ = some (.slice a8 n6 c8) ∧ w'.cell? ⟨b, o, none⟩ = some (.int .i64 y0) ∧ w'.cell? ⟨b, o + 1, none⟩ = some (.int .u8 y1) ∧ w'.cell? ⟨b, o + 2, none⟩ = some (.int .i64 y2))) := fun w' h => ⟨cell_below q0 h (lt_of_cell q0), cell_below q1 h (lt_of_cell q1), cell_below q2 h (lt_of_cell q2), cell_below q3 h (lt_of_cell q3), cell_below q4 h (lt_of_cell q4), cell_below q5 h (lt_of_cell q5), cell_below q6 h (lt_of_cell q6), cell_below q7 h (lt_of_cell q7), cell_below q8 h (lt_of_cell q8), cell_below p0 h (lt_of_cell p0), cell_below p1 h (lt_of_cell p1), cell_below p2 h (lt_of_cell p2)⟩
          go_upto_if 92 with fail
          go_cut [12] (fun v wc => v = .int .i64 (n6 : Int) ∧ wr = wc)
          case first =>
            rcases Bool.eq_false_or_eq_true Q with hq | hq
            · have hsz : (n : Int) = (n6 : Int) := by have := HQY.out hq; have := HKN.out; omega
              clear HK17 HGR HQ HQY HQN
              subst hq
              go_wp2_with fail
              go_meet
              case rel => exact ⟨by first | rfl | rw [hsz] | simp [hsz], rfl⟩
            · have hsz : (n : Int) + 1 = (n6 : Int) := by have := HQN.out hq; have := HKN.out; omega
              clear HK17 HGR HQ HQY HQN
              subst hq
              go_wp2_with fail
              go_meet
              case rel => exact ⟨by first | rfl | rw [hsz] | simp [hsz], rfl⟩
          case rest =>
            obtain ⟨rfl, rfl⟩ := hcut
            clear hlt1 hlt hk
            go_upto_region 17 with fail
            rcases ltE_or (f, lb, tt) (y0, y1, y2) with h1 | h2 | h3
            · have HL1 : Hid (true = ltE (f, lb, tt) (y0, y1, y2)) := h1.symm
              clear h1
              refine wp_region_held_drew (S := fun w' => w'.cell? ⟨P3, 0, none⟩ = some (.int .i64 s) ∧ w'.cell? ⟨P3, 1, none⟩ = some (.slice (some ⟨b, o, none⟩) n c) ∧ w'.cell? ⟨P5, 0, none⟩ = some (.int .i64 f) ∧ w'.cell? ⟨P5, 1, none⟩ = some (.int .u8 lb) ∧ w'.cell? ⟨P5, 2, none⟩ = some (.int .i64 tt) ∧ w'.cell? ⟨P6, 0, none⟩ = some (.int .i64 s) ∧ w'.cell? ⟨P6, 1, none⟩ = some (.slice a6 n6 c6) ∧ w'.cell? ⟨P8, 0, none⟩ = some (.int .i64 s) ∧ w'.cell? ⟨P8, 1, none⟩ = some (.slice a8 n6 c8) ∧ w'.cell? ⟨b, o, none⟩ = some (.int .i64 y0) ∧ w'.cell? ⟨b, o + 1, none⟩ = some (.int .u8 y1) ∧ w'.cell? ⟨b, o + 2, none⟩ = some (.int .i64 y2)) (by kernel_rfl) ⟨q0, q1, q2, q3, q4, q5, q6, q7, q8, p0, p1, p2⟩ (fun hHeld => ?_)
              clear q0 q1 q2 q3 q4 q5 q6 q7 q8 p0 p1 p2
              refine wpAnyH_take (i := 0) (oi := { dst := some 95, op := Go.Op.move (Go.Operand.tmp 7), type := 4, pos := "laws.go:349", after := #[], guard := none }) (v := ?_) rfl (by kernel_rfl) (by kernel_rfl) (by kernel_rfl) (fun _ _ _ h => h) (Or.inl ⟨by kernel_rfl, ?_⟩) (by assumption) ?_
              rotate_left
              · intro w hSw; (try dsimp only at hSw); go_simp; try with_reducible rfl
              simp only [Act.put, List.setIfInBounds_toArray, List.set_cons_zero, List.set_cons_succ]
              refine wpAnyH_take (i := 1) (oi := { dst := some 96, op := Go.Op.move (Go.Operand.tmp 95), type := 4, pos := "laws.go:349", after := #[{ on := 0, ground := Go.Ground.data }], guard := none }) (v := ?_) rfl (by kernel_rfl) (by kernel_rfl) (by kernel_rfl) (fun _ _ _ h => h) (Or.inl ⟨by kernel_rfl, ?_⟩) (by assumption) ?_
              rotate_left
              · intro w hSw; (try dsimp only at hSw); go_simp; try with_reducible rfl
              simp only [Act.put, List.setIfInBounds_toArray, List.set_cons_zero, List.set_cons_succ]
              refine wpAnyH_take (i := 2) (oi := { dst := some 97, op := Go.Op.move (Go.Operand.tmp 9), type := 4, pos := "laws.go:349", after := #[{ on := 1, ground := Go.Ground.guard }], guard := some (1, true) }) (v := ?_) rfl (by kernel_rfl) (by kernel_rfl) (by kernel_rfl) (fun _ _ _ h => h) (Or.inl ⟨by kernel_rfl, ?_⟩) (by assumption) ?_
              rotate_left
              · intro w hSw; (try dsimp only at hSw); go_simp; try with_reducible rfl
              simp only [Act.put, List.setIfInBounds_toArray, List.set_cons_zero, List.set_cons_succ]
              refine wpAnyH_take (i := 3) (oi := { dst := some 98, op := Go.Op.pick (Go.Operand.tmp 96) (Go.Operand.tmp 97) (Go.Operand.const (Go.Value.bool false)), type := 4, pos := "laws.go:349", after := #[{ on := 1, ground := Go.Ground.data }, { on := 2, ground := Go.Ground.data }], guard := none }) (v := ?_) rfl (by kernel_rfl) (by kernel_rfl) (by kernel_rfl) (fun _ _ _ h => h) (Or.inl ⟨by kernel_rfl, ?_⟩) (by assumption) ?_
              rotate_left
              · intro w hSw; (try dsimp only at hSw); go_simp; try with_reducible rfl
              simp only [Act.put, List.setIfInBounds_toArray, List.set_cons_zero, List.set_cons_succ]
              refine wpAnyH_take (i := 4) (oi := { dst := some 99, op := Go.Op.move (Go.Operand.tmp 98), type := 4, pos := "laws.go:349", after := #[{ on := 3, ground := Go.Ground.data }, { on := 1, ground := Go.Ground.chain }], guard := none }) (v := ?_) rfl (by kernel_rfl) (by kernel_rfl) (by kernel_rfl) (fun _ _ _ h => h) (Or.inl ⟨by kernel_rfl, ?_⟩) (by assumption) ?_
              rotate_left
              · intro w hSw; (try dsimp only at hSw); go_simp; try with_reducible rfl
              simp only [Act.put, List.setIfInBounds_toArray, List.set_cons_zero, List.set_cons_succ]
              refine wpAnyH_take (i := 5) (oi := { dst := some 100, op := Go.Op.load 37 (Go.Operand.tmp 8), type := 37, pos := "laws.go:349", after := #[{ on := 4, ground := Go.Ground.guard }], guard := some (4, true) }) (v := ?_) rfl (by kernel_rfl) (by kernel_rfl) (by kernel_rfl) (fun _ _ _ h => h) (Or.inl ⟨by kernel_rfl, ?_⟩) (by assumption) ?_
              rotate_left
              · intro w hSw; (try dsimp only at hSw); go_simp; try with_reducible rfl
              simp only [Act.put, List.setIfInBounds_toArray, List.set_cons_zero, List.set_cons_succ]
              refine wpAnyH_take (i := 6) (oi := { dst := some 101, op := Go.Op.load 37 (Go.Operand.tmp 6), type := 37, pos := "laws.go:349", after := #[{ on := 4, ground := Go.Ground.guard }], guard := some (4, true) }) (v := ?_) rfl (by kernel_rfl) (by kernel_rfl) (by kernel_rfl) (fun _ _ _ h => h) (Or.inl ⟨by kernel_rfl, ?_⟩) (by assumption) ?_
              rotate_left
              · intro w hSw; (try dsimp only at hSw); go_simp; try with_reducible rfl
              simp only [Act.put, List.setIfInBounds_toArray, List.set_cons_zero, List.set_cons_succ]
              refine wpAnyH_ready (rs := [7]) (by kernel_rfl) (by simp) ?_
              refine AllReadyH.cons (o := { dst := some 102, op := Go.Op.call { callee := Go.Callee.value (Go.Operand.func 29), args := #[Go.Operand.tmp 100, Go.Operand.tmp 101], argTypes := #[37, 37] }, type := 4, pos := "laws.go:349", after := #[{ on := 5, ground := Go.Ground.data }, { on := 6, ground := Go.Ground.data }, { on := 4, ground := Go.Ground.chain }, { on := 4, ground := Go.Ground.guard }], guard := some (4, true) }) rfl (fun K hK => ?_) ?_
              · go_simp
                go_wp2_with (go_at_call 29; refine (sameGraph_any 0 P8 0 P6 s a8 a6 n6 c8 c6 KL _ HGR.out.drew.em HGR.out.drew.en HGR.out.lt.2.2 HGR.out.lt.2.1 HKN.out (by have := HN6.out; omega)).mono ?_; rintro e v1 ⟨rfl, C1⟩)
                have D1 : Hid (Below wr.heap.size wr v1) := ((Below.refl wr.heap.size wr).drew).trans C1.out
                have hk_v1 := HK17.out _ D1.out
                refine hK.out _ _ hk_v1 (fun hHeld => ?_)
                clear hK K
                try simp only [Act.put, List.setIfInBounds_toArray, List.set_cons_zero, List.set_cons_succ]
                refine wpAnyH_take (i := 8) (oi := { dst := some 103, op := Go.Op.pick (Go.Operand.tmp 99) (Go.Operand.tmp 102) (Go.Operand.const (Go.Value.bool false)), type := 4, pos := "laws.go:349", after := #[{ on := 4, ground := Go.Ground.data }, { on := 7, ground := Go.Ground.data }], guard := none }) (v := ?_) rfl (by kernel_rfl) (by kernel_rfl) (by kernel_rfl) (fun _ _ _ h => h) (Or.inl ⟨by kernel_rfl, ?_⟩) (by assumption) ?_
                rotate_left
                · intro w hSw; (try dsimp only at hSw); go_simp; try with_reducible rfl
                simp only [Act.put, List.setIfInBounds_toArray, List.set_cons_zero, List.set_cons_succ]
                refine wpAnyH_take (i := 9) (oi := { dst := some 104, op := Go.Op.move (Go.Operand.tmp 103), type := 4, pos := "laws.go:349", after := #[{ on := 8, ground := Go.Ground.data }, { on := 7, ground := Go.Ground.chain }], guard := none }) (v := ?_) rfl (by kernel_rfl) (by kernel_rfl) (by kernel_rfl) (fun _ _ _ h => h) (Or.inl ⟨by kernel_rfl, ?_⟩) (by assumption) ?_
                rotate_left
                · intro w hSw; (try dsimp only at hSw); go_simp; try with_reducible rfl
                simp only [Act.put, List.setIfInBounds_toArray, List.set_cons_zero, List.set_cons_succ]
                refine wpAnyH_take (i := 10) (oi := { dst := some 105, op := Go.Op.fieldAddr 37 (Go.Operand.tmp 6) 1, type := 0, pos := "laws.go:349", after := #[{ on := 9, ground := Go.Ground.guard }], guard := some (9, true) }) (v := ?_) rfl (by kernel_rfl) (by kernel_rfl) (by kernel_rfl) (fun _ _ _ h => h) (Or.inl ⟨by kernel_rfl, ?_⟩) (by assumption) ?_
                rotate_left
                · intro w hSw; (try dsimp only at hSw); go_simp; try with_reducible rfl
                simp only [Act.put, List.setIfInBounds_toArray, List.set_cons_zero, List.set_cons_succ]
                refine wpAnyH_take (i := 11) (oi := { dst := some 106, op := Go.Op.load 35 (Go.Operand.tmp 105), type := 35, pos := "laws.go:349", after := #[{ on := 10, ground := Go.Ground.data }, { on := 9, ground := Go.Ground.guard }], guard := some (9, true) }) (v := ?_) rfl (by kernel_rfl) (by kernel_rfl) (by kernel_rfl) (fun _ _ _ h => h) (Or.inl ⟨by kernel_rfl, ?_⟩) (by assumption) ?_
                rotate_left
                · intro w hSw; (try dsimp only at hSw); go_simp; try with_reducible rfl
                simp only [Act.put, List.setIfInBounds_toArray, List.set_cons_zero, List.set_cons_succ]
                refine wpAnyH_take (i := 12) (oi := { dst := some 107, op := Go.Op.call { callee := Go.Callee.builtin Go.Builtin.len, args := #[Go.Operand.tmp 106], argTypes := #[35] }, type := 3, pos := "laws.go:349", after := #[{ on := 11, ground := Go.Ground.data }, { on := 9, ground := Go.Ground.guard }], guard := some (9, true) }) (v := ?_) rfl (by kernel_rfl) (by kernel_rfl) (by kernel_rfl) (fun _ _ _ h => h) (Or.inl ⟨by kernel_rfl, ?_⟩) (by assumption) ?_
                rotate_left
                · intro w hSw; (try dsimp only at hSw); go_simp; try with_reducible rfl
                simp only [Act.put, List.setIfInBounds_toArray, List.set_cons_zero, List.set_cons_succ]
                refine wpAnyH_take (i := 13) (oi := { dst := some 108, op := Go.Op.move (Go.Operand.tmp 12), type := 3, pos := "laws.go:349", after := #[{ on := 9, ground := Go.Ground.guard }], guard := some (9, true) }) (v := ?_) rfl (by kernel_rfl) (by kernel_rfl) (by kernel_rfl) (fun _ _ _ h => h) (Or.inl ⟨by kernel_rfl, ?_⟩) (by assumption) ?_
                rotate_left
                · intro w hSw; (try dsimp only at hSw); go_simp; try with_reducible rfl
                simp only [Act.put, List.setIfInBounds_toArray, List.set_cons_zero, List.set_cons_succ]
                refine wpAnyH_take (i := 14) (oi := { dst := some 109, op := Go.Op.binOp Go.BinOp.eql 3 (Go.Operand.tmp 107) (Go.Operand.tmp 108) 3, type := 4, pos := "laws.go:349", after := #[{ on := 12, ground := Go.Ground.data }, { on := 13, ground := Go.Ground.data }, { on := 9, ground := Go.Ground.guard }], guard := some (9, true) }) (v := ?_) rfl (by kernel_rfl) (by kernel_rfl) (by kernel_rfl) (fun _ _ _ h => h) (Or.inl ⟨by kernel_rfl, ?_⟩) (by assumption) ?_
                rotate_left
                · intro w hSw; (try dsimp only at hSw); go_simp; try with_reducible rfl
                simp only [Act.put, List.setIfInBounds_toArray, List.set_cons_zero, List.set_cons_succ]
                refine wpAnyH_take (i := 15) (oi := { dst := some 110, op := Go.Op.pick (Go.Operand.tmp 104) (Go.Operand.tmp 109) (Go.Operand.const (Go.Value.bool false)), type := 4, pos := "laws.go:349", after := #[{ on := 9, ground := Go.Ground.data }, { on := 14, ground := Go.Ground.data }], guard := none }) (v := ?_) rfl (by kernel_rfl) (by kernel_rfl) (by kernel_rfl) (fun _ _ _ h => h) (Or.inl ⟨by kernel_rfl, ?_⟩) (by assumption) ?_
                rotate_left
                · intro w hSw; (try dsimp only at hSw); go_simp; try with_reducible rfl
                simp only [Act.put, List.setIfInBounds_toArray, List.set_cons_zero, List.set_cons_succ]
                refine wpAnyH_take (i := 16) (oi := { dst := some 111, op := Go.Op.move (Go.Operand.tmp 110), type := 4, pos := "laws.go:349", after := #[{ on := 15, ground := Go.Ground.data }, { on := 9, ground := Go.Ground.chain }], guard := none }) (v := ?_) rfl (by kernel_rfl) (by kernel_rfl) (by kernel_rfl) (fun _ _ _ h => h) (Or.inl ⟨by kernel_rfl, ?_⟩) (by assumption) ?_
                rotate_left
                · intro w hSw; (try dsimp only at hSw); go_simp; try with_reducible rfl
                simp only [Act.put, List.setIfInBounds_toArray, List.set_cons_zero, List.set_cons_succ]
                refine wpAnyH_take (i := 17) (oi := { dst := some 112, op := Go.Op.load 37 (Go.Operand.tmp 6), type := 37, pos := "laws.go:349", after := #[{ on := 16, ground := Go.Ground.guard }], guard := some (16, true) }) (v := ?_) rfl (by kernel_rfl) (by kernel_rfl) (by kernel_rfl) (fun _ _ _ h => h) (Or.inl ⟨by kernel_rfl, ?_⟩) (by assumption) ?_
                rotate_left
                · intro w hSw; (try dsimp only at hSw); go_simp; try with_reducible rfl
                simp only [Act.put, List.setIfInBounds_toArray, List.set_cons_zero, List.set_cons_succ]
                refine wpAnyH_take (i := 18) (oi := { dst := some 113, op := Go.Op.fieldAddr 42 (Go.Operand.tmp 5) 0, type := 0, pos := "laws.go:349", after := #[{ on := 16, ground := Go.Ground.guard }], guard := some (16, true) }) (v := ?_) rfl (by kernel_rfl) (by kernel_rfl) (by kernel_rfl) (fun _ _ _ h => h) (Or.inl ⟨by kernel_rfl, ?_⟩) (by assumption) ?_
                rotate_left
                · intro w hSw; (try dsimp only at hSw); go_simp; try with_reducible rfl
                simp only [Act.put, List.setIfInBounds_toArray, List.set_cons_zero, List.set_cons_succ]
                refine wpAnyH_take (i := 19) (oi := { dst := some 114, op := Go.Op.load 3 (Go.Operand.tmp 113), type := 3, pos := "laws.go:349", after := #[{ on := 18, ground := Go.Ground.data }, { on := 16, ground := Go.Ground.guard }], guard := some (16, true) }) (v := ?_) rfl (by kernel_rfl) (by kernel_rfl) (by kernel_rfl) (fun _ _ _ h => h) (Or.inl ⟨by kernel_rfl, ?_⟩) (by assumption) ?_
                rotate_left
                · intro w hSw; (try dsimp only at hSw); go_simp; try with_reducible rfl
                simp only [Act.put, List.setIfInBounds_toArray, List.set_cons_zero, List.set_cons_succ]
                refine wpAnyH_take (i := 20) (oi := { dst := some 115, op := Go.Op.fieldAddr 42 (Go.Operand.tmp 5) 1, type := 0, pos := "laws.go:349", after := #[{ on := 16, ground := Go.Ground.guard }], guard := some (16, true) }) (v := ?_) rfl (by kernel_rfl) (by kernel_rfl) (by kernel_rfl) (fun _ _ _ h => h) (Or.inl ⟨by kernel_rfl, ?_⟩) (by assumption) ?_
                rotate_left
                · intro w hSw; (try dsimp only at hSw); go_simp; try with_reducible rfl
                simp only [Act.put, List.setIfInBounds_toArray, List.set_cons_zero, List.set_cons_succ]
                refine wpAnyH_take (i := 21) (oi := { dst := some 116, op := Go.Op.load 5 (Go.Operand.tmp 115), type := 5, pos := "laws.go:349", after := #[{ on := 20, ground := Go.Ground.data }, { on := 16, ground := Go.Ground.guard }], guard := some (16, true) }) (v := ?_) rfl (by kernel_rfl) (by kernel_rfl) (by kernel_rfl) (fun _ _ _ h => h) (Or.inl ⟨by kernel_rfl, ?_⟩) (by assumption) ?_
                rotate_left
                · intro w hSw; (try dsimp only at hSw); go_simp; try with_reducible rfl
                simp only [Act.put, List.setIfInBounds_toArray, List.set_cons_zero, List.set_cons_succ]
                refine wpAnyH_take (i := 23) (oi := { dst := some 118, op := Go.Op.fieldAddr 42 (Go.Operand.tmp 5) 2, type := 0, pos := "laws.go:349", after := #[{ on := 16, ground := Go.Ground.guard }], guard := some (16, true) }) (v := ?_) rfl (by kernel_rfl) (by kernel_rfl) (by kernel_rfl) (fun _ _ _ h => h) (Or.inl ⟨by kernel_rfl, ?_⟩) (by assumption) ?_
                rotate_left
                · intro w hSw; (try dsimp only at hSw); go_simp; try with_reducible rfl
                simp only [Act.put, List.setIfInBounds_toArray, List.set_cons_zero, List.set_cons_succ]
                refine wpAnyH_take (i := 24) (oi := { dst := some 119, op := Go.Op.load 3 (Go.Operand.tmp 118), type := 3, pos := "laws.go:349", after := #[{ on := 23, ground := Go.Ground.data }, { on := 16, ground := Go.Ground.guard }], guard := some (16, true) }) (v := ?_) rfl (by kernel_rfl) (by kernel_rfl) (by kernel_rfl) (fun _ _ _ h => h) (Or.inl ⟨by kernel_rfl, ?_⟩) (by assumption) ?_
                rotate_left
                · intro w hSw; (try dsimp only at hSw); go_simp; try with_reducible rfl
                simp only [Act.put, List.setIfInBounds_toArray, List.set_cons_zero, List.set_cons_succ]
                refine wpAnyH_ready (rs := [22]) (by kernel_rfl) (by simp) ?_
                refine AllReadyH.cons (o := { dst := some 117, op := Go.Op.call { callee := Go.Callee.value (Go.Operand.func 28), args := #[Go.Operand.tmp 112, Go.Operand.tmp 114, Go.Operand.tmp 116], argTypes := #[37, 3, 5] }, type := 39, pos := "laws.go:349", after := #[{ on := 17, ground := Go.Ground.data }, { on := 19, ground := Go.Ground.data }, { on := 21, ground := Go.Ground.data }, { on := 16, ground := Go.Ground.chain }, { on := 16, ground := Go.Ground.guard }], guard := some (16, true) }) rfl (fun K hK => ?_) ?_
                · go_simp
                  go_wp2_with (go_at_call 28; refine (nextOf_any 0 P6 s a6 n6 c6 KL f lb v1 (HGR.out.below D1.out).en (HGR.out.below D1.out).lt.2.1 HKN.out (by have := HN6.out; omega)).mono ?_; rintro e v3 ⟨a3, n3, c3, rfl, HN3, HR3, C3⟩)
                  have D3 : Hid (Below wr.heap.size wr v3) := D1.out.trans (C3.out.mono D1.out.size)
                  have hk_v3 := HK17.out _ D3.out
                  refine hK.out _ _ hk_v3 (fun hHeld => ?_)
                  clear hK K
                  try simp only [Act.put, List.setIfInBounds_toArray, List.set_cons_zero, List.set_cons_succ]
                  refine wpAnyH_ready (rs := [25]) (by kernel_rfl) (by simp) ?_
                  refine AllReadyH.cons (o := { dst := some 120, op := Go.Op.call { callee := Go.Callee.value (Go.Operand.func 26), args := #[Go.Operand.tmp 117, Go.Operand.tmp 119], argTypes := #[39, 3] }, type := 4, pos := "laws.go:349", after := #[{ on := 22, ground := Go.Ground.data }, { on := 24, ground := Go.Ground.data }, { on := 22, ground := Go.Ground.chain }, { on := 16, ground := Go.Ground.guard }], guard := some (16, true) }) rfl (fun K hK => ?_) ?_
                  · go_simp
                    go_wp2_with (go_at_call 26; refine (in_any _ _ a3 n3 c3 (nextE KL f lb) tt v3 HR3.out.toIn HN3.out (by have := nextE_len KL f lb; have := HN3.out; have := HKN.out; have := HN6.out; omega) HME.out).mono ?_; rintro e v4 ⟨rfl, C4⟩)
                    have D4 : Hid (Below wr.heap.size wr v4) := D3.out.trans (C4.out.mono D3.out.size)
                    have hk_v4 := HK17.out _ D4.out
                    refine hK.out _ _ hk_v4 (fun hHeld => ?_)
                    clear hK K
                    try simp only [Act.put, List.setIfInBounds_toArray, List.set_cons_zero, List.set_cons_succ]
                    refine wpAnyH_take (i := 26) (oi := { dst := some 121, op := Go.Op.pick (Go.Operand.tmp 111) (Go.Operand.tmp 120) (Go.Operand.const (Go.Value.bool false)), type := 4, pos := "laws.go:349", after := #[{ on := 16, ground := Go.Ground.data }, { on := 25, ground := Go.Ground.data }], guard := none }) (v := ?_) rfl (by kernel_rfl) (by kernel_rfl) (by kernel_rfl) (fun _ _ _ h => h) (Or.inl ⟨by kernel_rfl, ?_⟩) (by assumption) ?_
                    rotate_left
                    · intro w hSw; (try dsimp only at hSw); go_simp; try with_reducible rfl
                    simp only [Act.put, List.setIfInBounds_toArray, List.set_cons_zero, List.set_cons_succ]
                    refine wpAnyH_take (i := 27) (oi := { dst := some 122, op := Go.Op.move (Go.Operand.tmp 121), type := 4, pos := "laws.go:349", after := #[{ on := 26, ground := Go.Ground.data }, { on := 25, ground := Go.Ground.chain }], guard := none }) (v := ?_) rfl (by kernel_rfl) (by kernel_rfl) (by kernel_rfl) (fun _ _ _ h => h) (Or.inl ⟨by kernel_rfl, ?_⟩) (by assumption) ?_
                    rotate_left
                    · intro w hSw; (try dsimp only at hSw); go_simp; try with_reducible rfl
                    simp only [Act.put, List.setIfInBounds_toArray, List.set_cons_zero, List.set_cons_succ]
                    refine wpAnyH_take (i := 28) (oi := { dst := some 123, op := Go.Op.load 37 (Go.Operand.tmp 6), type := 37, pos := "laws.go:349", after := #[{ on := 27, ground := Go.Ground.guard }], guard := some (27, true) }) (v := ?_) rfl (by kernel_rfl) (by kernel_rfl) (by kernel_rfl) (fun _ _ _ h => h) (Or.inl ⟨by kernel_rfl, ?_⟩) (by assumption) ?_
                    rotate_left
                    · intro w hSw; (try dsimp only at hSw); go_simp; try with_reducible rfl
                    simp only [Act.put, List.setIfInBounds_toArray, List.set_cons_zero, List.set_cons_succ]
                    refine wpAnyH_ready (rs := [29]) (by kernel_rfl) (by simp) ?_
                    refine AllReadyH.cons (o := { dst := some 124, op := Go.Op.call { callee := Go.Callee.value (Go.Operand.func 30), args := #[Go.Operand.tmp 123], argTypes := #[37] }, type := 4, pos := "laws.go:349", after := #[{ on := 28, ground := Go.Ground.data }, { on := 27, ground := Go.Ground.chain }, { on := 27, ground := Go.Ground.guard }], guard := some (27, true) }) rfl (fun K hK => ?_) ?_
                    · go_simp
                      go_wp2_with (go_at_call 30; refine (graphOk_any 0 P6 s a6 n6 c6 KL true v4 (HGR.out.below D4.out).en (HGR.out.below D4.out).lt.2.1 HKN.out (by have := HN6.out; omega) HKO.out.symm).mono ?_; rintro e v5 ⟨rfl, C5⟩)
                      have D5 : Hid (Below wr.heap.size wr v5) := D4.out.trans (C5.out.mono D4.out.size)
                      have hk_v5 := HK17.out _ D5.out
                      refine hK.out _ _ hk_v5 (fun hHeld => ?_)
                      clear hK K
                      try simp only [Act.put, List.setIfInBounds_toArray, List.set_cons_zero, List.set_cons_succ]
                      refine wpAnyH_take (i := 30) (oi := { dst := some 125, op := Go.Op.pick (Go.Operand.tmp 122) (Go.Operand.tmp 124) (Go.Operand.const (Go.Value.bool false)), type := 4, pos := "laws.go:349", after := #[{ on := 27, ground := Go.Ground.data }, { on := 29, ground := Go.Ground.data }], guard := none }) (v := ?_) rfl (by kernel_rfl) (by kernel_rfl) (by kernel_rfl) (fun _ _ _ h => h) (Or.inl ⟨by kernel_rfl, ?_⟩) (by assumption) ?_
                      rotate_left
                      · intro w hSw; (try dsimp only at hSw); go_simp; try with_reducible rfl
                      simp only [Act.put, List.setIfInBounds_toArray, List.set_cons_zero, List.set_cons_succ]
                      refine wpAnyH_take (i := 31) (oi := { dst := some 126, op := Go.Op.move (Go.Operand.tmp 125), type := 4, pos := "laws.go:349", after := #[{ on := 30, ground := Go.Ground.data }, { on := 29, ground := Go.Ground.chain }], guard := none }) (v := ?_) rfl (by kernel_rfl) (by kernel_rfl) (by kernel_rfl) (fun _ _ _ h => h) (Or.inl ⟨by kernel_rfl, ?_⟩) (by assumption) ?_
                      rotate_left
                      · intro w hSw; (try dsimp only at hSw); go_simp; try with_reducible rfl
                      simp only [Act.put, List.setIfInBounds_toArray, List.set_cons_zero, List.set_cons_succ]
                      refine wpAnyH_take (i := 32) (oi := { dst := some 127, op := Go.Op.load 42 (Go.Operand.tmp 5), type := 42, pos := "laws.go:349", after := #[{ on := 31, ground := Go.Ground.guard }], guard := some (31, true) }) (v := ?_) rfl (by kernel_rfl) (by kernel_rfl) (by kernel_rfl) (fun _ _ _ h => h) (Or.inl ⟨by kernel_rfl, ?_⟩) (by assumption) ?_
                      rotate_left
                      · intro w hSw; (try dsimp only at hSw); go_simp; try with_reducible rfl
                      simp only [Act.put, List.setIfInBounds_toArray, List.set_cons_zero, List.set_cons_succ]
                      refine wpAnyH_take (i := 33) (oi := { dst := some 128, op := Go.Op.fieldAddr 37 (Go.Operand.tmp 3) 1, type := 0, pos := "laws.go:349", after := #[{ on := 31, ground := Go.Ground.guard }], guard := some (31, true) }) (v := ?_) rfl (by kernel_rfl) (by kernel_rfl) (by kernel_rfl) (fun _ _ _ h => h) (Or.inl ⟨by kernel_rfl, ?_⟩) (by assumption) ?_
                      rotate_left
                      · intro w hSw; (try dsimp only at hSw); go_simp; try with_reducible rfl
                      simp only [Act.put, List.setIfInBounds_toArray, List.set_cons_zero, List.set_cons_succ]
                      refine wpAnyH_take (i := 34) (oi := { dst := some 129, op := Go.Op.load 35 (Go.Operand.tmp 128), type := 35, pos := "laws.go:349", after := #[{ on := 33, ground := Go.Ground.data }, { on := 31, ground := Go.Ground.guard }], guard := some (31, true) }) (v := ?_) rfl (by kernel_rfl) (by kernel_rfl) (by kernel_rfl) (fun _ _ _ h => h) (Or.inl ⟨by kernel_rfl, ?_⟩) (by assumption) ?_
                      rotate_left
                      · intro w hSw; (try dsimp only at hSw); go_simp; try with_reducible rfl
                      simp only [Act.put, List.setIfInBounds_toArray, List.set_cons_zero, List.set_cons_succ]
                      refine wpAnyH_take (i := 35) (oi := { dst := some 130, op := Go.Op.indexAddr 35 (Go.Operand.tmp 129) (Go.Operand.const (Go.Value.int Go.IntKind.i64 0)), type := 0, pos := "laws.go:349", after := #[{ on := 34, ground := Go.Ground.data }, { on := 31, ground := Go.Ground.guard }], guard := some (31, true) }) (v := ?_) rfl (by kernel_rfl) (by kernel_rfl) (by kernel_rfl) (fun _ _ _ h => h) (Or.inl ⟨by kernel_rfl, ?_⟩) (by assumption) ?_
                      rotate_left
                      · intro w hSw; (try dsimp only at hSw); go_simp; try with_reducible rfl
                      simp only [Act.put, List.setIfInBounds_toArray, List.set_cons_zero, List.set_cons_succ]
                      refine wpAnyH_take (i := 36) (oi := { dst := some 131, op := Go.Op.load 42 (Go.Operand.tmp 130), type := 42, pos := "laws.go:349", after := #[{ on := 35, ground := Go.Ground.data }, { on := 31, ground := Go.Ground.guard }], guard := some (31, true) }) (v := ?_) rfl (by kernel_rfl) (by kernel_rfl) (by kernel_rfl) (fun _ _ _ h => h) (Or.inl ⟨by kernel_rfl, ?_⟩) (by assumption) ?_
                      rotate_left
                      · intro w hSw; (try dsimp only at hSw); go_simp; try with_reducible rfl
                      simp only [Act.put, List.setIfInBounds_toArray, List.set_cons_zero, List.set_cons_succ]
                      refine wpAnyH_ready (rs := [37]) (by kernel_rfl) (by simp) ?_
                      refine AllReadyH.cons (o := { dst := some 132, op := Go.Op.call { callee := Go.Callee.value (Go.Operand.func 31), args := #[Go.Operand.tmp 127, Go.Operand.tmp 131], argTypes := #[42, 42] }, type := 4, pos := "laws.go:349", after := #[{ on := 32, ground := Go.Ground.data }, { on := 36, ground := Go.Ground.data }, { on := 31, ground := Go.Ground.chain }, { on := 31, ground := Go.Ground.guard }], guard := some (31, true) }) rfl (fun K hK => ?_) ?_
                      · go_simp
                        go_wp2_with (go_at_call 31; refine (edgeLess_any (f, lb, tt) (y0, y1, y2) true v5 HL1.out).mono ?_; rintro e v6 ⟨rfl, C6⟩)
                        have D6 : Hid (Below wr.heap.size wr v6) := D5.out.trans (C6.out.mono D5.out.size)
                        have hk_v6 := HK17.out _ D6.out
                        refine hK.out _ _ hk_v6 (fun hHeld => ?_)
                        clear hK K
                        try simp only [Act.put, List.setIfInBounds_toArray, List.set_cons_zero, List.set_cons_succ]
                        refine wpAnyH_take (i := 38) (oi := { dst := some 133, op := Go.Op.move (Go.Operand.tmp 132), type := 4, pos := "laws.go:349", after := #[{ on := 37, ground := Go.Ground.data }, { on := 37, ground := Go.Ground.chain }, { on := 31, ground := Go.Ground.guard }], guard := some (31, true) }) (v := ?_) rfl (by kernel_rfl) (by kernel_rfl) (by kernel_rfl) (fun _ _ _ h => h) (Or.inl ⟨by kernel_rfl, ?_⟩) (by assumption) ?_
                        rotate_left
                        · intro w hSw; (try dsimp only at hSw); go_simp; try with_reducible rfl
                        simp only [Act.put, List.setIfInBounds_toArray, List.set_cons_zero, List.set_cons_succ]
                        refine wpAnyH_take (i := 39) (oi := { dst := some 134, op := Go.Op.fieldAddr 37 (Go.Operand.tmp 3) 1, type := 0, pos := "laws.go:349", after := #[{ on := 38, ground := Go.Ground.guard }], guard := some (38, false) }) (v := undef) rfl (by kernel_rfl) (by kernel_rfl) (by kernel_rfl) (fun _ _ _ h => h) (Or.inr ⟨by kernel_rfl, rfl⟩) (by assumption) ?_
                        simp only [Act.put, List.setIfInBounds_toArray, List.set_cons_zero, List.set_cons_succ]
                        refine wpAnyH_take (i := 40) (oi := { dst := some 135, op := Go.Op.load 35 (Go.Operand.tmp 134), type := 35, pos := "laws.go:349", after := #[{ on := 39, ground := Go.Ground.data }, { on := 38, ground := Go.Ground.guard }], guard := some (38, false) }) (v := undef) rfl (by kernel_rfl) (by kernel_rfl) (by kernel_rfl) (fun _ _ _ h => h) (Or.inr ⟨by kernel_rfl, rfl⟩) (by assumption) ?_
                        simp only [Act.put, List.setIfInBounds_toArray, List.set_cons_zero, List.set_cons_succ]
                        refine wpAnyH_take (i := 41) (oi := { dst := some 136, op := Go.Op.indexAddr 35 (Go.Operand.tmp 135) (Go.Operand.const (Go.Value.int Go.IntKind.i64 0)), type := 0, pos := "laws.go:349", after := #[{ on := 40, ground := Go.Ground.data }, { on := 38, ground := Go.Ground.guard }], guard := some (38, false) }) (v := undef) rfl (by kernel_rfl) (by kernel_rfl) (by kernel_rfl) (fun _ _ _ h => h) (Or.inr ⟨by kernel_rfl, rfl⟩) (by assumption) ?_
                        simp only [Act.put, List.setIfInBounds_toArray, List.set_cons_zero, List.set_cons_succ]
                        refine wpAnyH_take (i := 42) (oi := { dst := some 137, op := Go.Op.load 42 (Go.Operand.tmp 136), type := 42, pos := "laws.go:349", after := #[{ on := 41, ground := Go.Ground.data }, { on := 38, ground := Go.Ground.guard }], guard := some (38, false) }) (v := undef) rfl (by kernel_rfl) (by kernel_rfl) (by kernel_rfl) (fun _ _ _ h => h) (Or.inr ⟨by kernel_rfl, rfl⟩) (by assumption) ?_
                        simp only [Act.put, List.setIfInBounds_toArray, List.set_cons_zero, List.set_cons_succ]
                        refine wpAnyH_take (i := 43) (oi := { dst := some 138, op := Go.Op.load 42 (Go.Operand.tmp 5), type := 42, pos := "laws.go:349", after := #[{ on := 38, ground := Go.Ground.guard }], guard := some (38, false) }) (v := undef) rfl (by kernel_rfl) (by kernel_rfl) (by kernel_rfl) (fun _ _ _ h => h) (Or.inr ⟨by kernel_rfl, rfl⟩) (by assumption) ?_
                        simp only [Act.put, List.setIfInBounds_toArray, List.set_cons_zero, List.set_cons_succ]
                        refine wpAnyH_ready (rs := [44]) (by kernel_rfl) (by simp) ?_
                        refine AllReadyH.cons (o := { dst := some 139, op := Go.Op.call { callee := Go.Callee.value (Go.Operand.func 31), args := #[Go.Operand.tmp 137, Go.Operand.tmp 138], argTypes := #[42, 42] }, type := 4, pos := "laws.go:349", after := #[{ on := 42, ground := Go.Ground.data }, { on := 43, ground := Go.Ground.data }, { on := 38, ground := Go.Ground.chain }, { on := 38, ground := Go.Ground.guard }], guard := some (38, false) }) rfl (fun K hK => ?_) ?_
                        · rw [if_neg (by refine Bool.eq_false_iff.1 ?_; kernel_rfl)]
                          refine hK.out _ _ hk_v6 (fun hHeld => ?_)
                          clear hK K
                          try simp only [Act.put, List.setIfInBounds_toArray, List.set_cons_zero, List.set_cons_succ]
                          refine wpAnyH_take (i := 45) (oi := { dst := some 140, op := Go.Op.pick (Go.Operand.tmp 133) (Go.Operand.const (Go.Value.bool true)) (Go.Operand.tmp 139), type := 4, pos := "laws.go:349", after := #[{ on := 38, ground := Go.Ground.data }, { on := 44, ground := Go.Ground.data }, { on := 31, ground := Go.Ground.guard }], guard := some (31, true) }) (v := ?_) rfl (by kernel_rfl) (by kernel_rfl) (by kernel_rfl) (fun _ _ _ h => h) (Or.inl ⟨by kernel_rfl, ?_⟩) (by assumption) ?_
                          rotate_left
                          · intro w hSw; (try dsimp only at hSw); go_simp; try with_reducible rfl
                          simp only [Act.put, List.setIfInBounds_toArray, List.set_cons_zero, List.set_cons_succ]
                          refine wpAnyH_take (i := 46) (oi := { dst := some 141, op := Go.Op.move (Go.Operand.tmp 140), type := 4, pos := "laws.go:349", after := #[{ on := 45, ground := Go.Ground.data }, { on := 44, ground := Go.Ground.chain }, { on := 31, ground := Go.Ground.guard }], guard := some (31, true) }) (v := ?_) rfl (by kernel_rfl) (by kernel_rfl) (by kernel_rfl) (fun _ _ _ h => h) (Or.inl ⟨by kernel_rfl, ?_⟩) (by assumption) ?_
                          rotate_left
                          · intro w hSw; (try dsimp only at hSw); go_simp; try with_reducible rfl
                          simp only [Act.put, List.setIfInBounds_toArray, List.set_cons_zero, List.set_cons_succ]
                          refine wpAnyH_take (i := 47) (oi := { dst := some 142, op := Go.Op.load 42 (Go.Operand.tmp 5), type := 42, pos := "laws.go:349", after := #[{ on := 46, ground := Go.Ground.guard }], guard := some (46, false) }) (v := undef) rfl (by kernel_rfl) (by kernel_rfl) (by kernel_rfl) (fun _ _ _ h => h) (Or.inr ⟨by kernel_rfl, rfl⟩) (by assumption) ?_
                          simp only [Act.put, List.setIfInBounds_toArray, List.set_cons_zero, List.set_cons_succ]
                          refine wpAnyH_take (i := 48) (oi := { dst := some 143, op := Go.Op.fieldAddr 37 (Go.Operand.tmp 3) 1, type := 0, pos := "laws.go:349", after := #[{ on := 46, ground := Go.Ground.guard }], guard := some (46, false) }) (v := undef) rfl (by kernel_rfl) (by kernel_rfl) (by kernel_rfl) (fun _ _ _ h => h) (Or.inr ⟨by kernel_rfl, rfl⟩) (by assumption) ?_
                          simp only [Act.put, List.setIfInBounds_toArray, List.set_cons_zero, List.set_cons_succ]
                          refine wpAnyH_take (i := 49) (oi := { dst := some 144, op := Go.Op.load 35 (Go.Operand.tmp 143), type := 35, pos := "laws.go:349", after := #[{ on := 48, ground := Go.Ground.data }, { on := 46, ground := Go.Ground.guard }], guard := some (46, false) }) (v := undef) rfl (by kernel_rfl) (by kernel_rfl) (by kernel_rfl) (fun _ _ _ h => h) (Or.inr ⟨by kernel_rfl, rfl⟩) (by assumption) ?_
                          simp only [Act.put, List.setIfInBounds_toArray, List.set_cons_zero, List.set_cons_succ]
                          refine wpAnyH_take (i := 50) (oi := { dst := some 145, op := Go.Op.indexAddr 35 (Go.Operand.tmp 144) (Go.Operand.const (Go.Value.int Go.IntKind.i64 0)), type := 0, pos := "laws.go:349", after := #[{ on := 49, ground := Go.Ground.data }, { on := 46, ground := Go.Ground.guard }], guard := some (46, false) }) (v := undef) rfl (by kernel_rfl) (by kernel_rfl) (by kernel_rfl) (fun _ _ _ h => h) (Or.inr ⟨by kernel_rfl, rfl⟩) (by assumption) ?_
                          simp only [Act.put, List.setIfInBounds_toArray, List.set_cons_zero, List.set_cons_succ]
                          refine wpAnyH_take (i := 51) (oi := { dst := some 146, op := Go.Op.load 42 (Go.Operand.tmp 145), type := 42, pos := "laws.go:349", after := #[{ on := 50, ground := Go.Ground.data }, { on := 46, ground := Go.Ground.guard }], guard := some (46, false) }) (v := undef) rfl (by kernel_rfl) (by kernel_rfl) (by kernel_rfl) (fun _ _ _ h => h) (Or.inr ⟨by kernel_rfl, rfl⟩) (by assumption) ?_
                          simp only [Act.put, List.setIfInBounds_toArray, List.set_cons_zero, List.set_cons_succ]
                          refine wpAnyH_take (i := 52) (oi := { dst := some 147, op := Go.Op.binOp Go.BinOp.eql 42 (Go.Operand.tmp 142) (Go.Operand.tmp 146) 42, type := 4, pos := "laws.go:349", after := #[{ on := 47, ground := Go.Ground.data }, { on := 51, ground := Go.Ground.data }, { on := 46, ground := Go.Ground.guard }], guard := some (46, false) }) (v := undef) rfl (by kernel_rfl) (by kernel_rfl) (by kernel_rfl) (fun _ _ _ h => h) (Or.inr ⟨by kernel_rfl, rfl⟩) (by assumption) ?_
                          simp only [Act.put, List.setIfInBounds_toArray, List.set_cons_zero, List.set_cons_succ]
                          refine wpAnyH_take (i := 53) (oi := { dst := some 148, op := Go.Op.pick (Go.Operand.tmp 141) (Go.Operand.const (Go.Value.bool true)) (Go.Operand.tmp 147), type := 4, pos := "laws.go:349", after := #[{ on := 46, ground := Go.Ground.data }, { on := 52, ground := Go.Ground.data }, { on := 31, ground := Go.Ground.guard }], guard := some (31, true) }) (v := ?_) rfl (by kernel_rfl) (by kernel_rfl) (by kernel_rfl) (fun _ _ _ h => h) (Or.inl ⟨by kernel_rfl, ?_⟩) (by assumption) ?_
                          rotate_left
                          · intro w hSw; (try dsimp only at hSw); go_simp; try with_reducible rfl
                          simp only [Act.put, List.setIfInBounds_toArray, List.set_cons_zero, List.set_cons_succ]
                          refine wpAnyH_take (i := 54) (oi := { dst := some 149, op := Go.Op.pick (Go.Operand.tmp 126) (Go.Operand.tmp 148) (Go.Operand.const (Go.Value.bool false)), type := 4, pos := "laws.go:349", after := #[{ on := 31, ground := Go.Ground.data }, { on := 53, ground := Go.Ground.data }], guard := none }) (v := ?_) rfl (by kernel_rfl) (by kernel_rfl) (by kernel_rfl) (fun _ _ _ h => h) (Or.inl ⟨by kernel_rfl, ?_⟩) (by assumption) ?_
                          rotate_left
                          · intro w hSw; (try dsimp only at hSw); go_simp; try with_reducible rfl
                          simp only [Act.put, List.setIfInBounds_toArray, List.set_cons_zero, List.set_cons_succ]
                          refine wpAnyH_take (i := 55) (oi := { dst := some 2, op := Go.Op.assign (Go.Operand.tmp 149), type := 4, pos := "laws.go:349", after := #[{ on := 54, ground := Go.Ground.data }, { on := 46, ground := Go.Ground.chain }, { on := 0, ground := Go.Ground.phase }, { on := 1, ground := Go.Ground.phase }, { on := 2, ground := Go.Ground.phase }, { on := 3, ground := Go.Ground.phase }, { on := 4, ground := Go.Ground.phase }, { on := 5, ground := Go.Ground.phase }, { on := 6, ground := Go.Ground.phase }, { on := 7, ground := Go.Ground.phase }, { on := 8, ground := Go.Ground.phase }, { on := 9, ground := Go.Ground.phase }, { on := 10, ground := Go.Ground.phase }, { on := 11, ground := Go.Ground.phase }, { on := 12, ground := Go.Ground.phase }, { on := 13, ground := Go.Ground.phase }, { on := 14, ground := Go.Ground.phase }, { on := 15, ground := Go.Ground.phase }, { on := 16, ground := Go.Ground.phase }, { on := 17, ground := Go.Ground.phase }, { on := 18, ground := Go.Ground.phase }, { on := 19, ground := Go.Ground.phase }, { on := 20, ground := Go.Ground.phase }, { on := 21, ground := Go.Ground.phase }, { on := 22, ground := Go.Ground.phase }, { on := 23, ground := Go.Ground.phase }, { on := 24, ground := Go.Ground.phase }, { on := 25, ground := Go.Ground.phase }, { on := 26, ground := Go.Ground.phase }, { on := 27, ground := Go.Ground.phase }, { on := 28, ground := Go.Ground.phase }, { on := 29, ground := Go.Ground.phase }, { on := 30, ground := Go.Ground.phase }, { on := 31, ground := Go.Ground.phase }, { on := 32, ground := Go.Ground.phase }, { on := 33, ground := Go.Ground.phase }, { on := 34, ground := Go.Ground.phase }, { on := 35, ground := Go.Ground.phase }, { on := 36, ground := Go.Ground.phase }, { on := 37, ground := Go.Ground.phase }, { on := 38, ground := Go.Ground.phase }, { on := 39, ground := Go.Ground.phase }, { on := 40, ground := Go.Ground.phase }, { on := 41, ground := Go.Ground.phase }, { on := 42, ground := Go.Ground.phase }, { on := 43, ground := Go.Ground.phase }, { on := 44, ground := Go.Ground.phase }, { on := 45, ground := Go.Ground.phase }, { on := 46, ground := Go.Ground.phase }, { on := 47, ground := Go.Ground.phase }, { on := 48, ground := Go.Ground.phase }, { on := 49, ground := Go.Ground.phase }, { on := 50, ground := Go.Ground.phase }, { on := 51, ground := Go.Ground.phase }, { on := 52, ground := Go.Ground.phase }, { on := 53, ground := Go.Ground.phase }, { on := 54, ground := Go.Ground.phase }], guard := none }) (v := ?_) rfl (by kernel_rfl) (by kernel_rfl) (by kernel_rfl) (fun _ _ _ h => h) (Or.inl ⟨by kernel_rfl, ?_⟩) (by assumption) ?_
                          rotate_left
                          · intro w hSw; (try dsimp only at hSw); go_simp; try with_reducible rfl
                          simp only [Act.put, List.setIfInBounds_toArray, List.set_cons_zero, List.set_cons_succ]
                          refine wpAnyH_done (by kernel_rfl) ?_ _
                          clear hHeld
                          go_wp2
                          go_ret
                          exact ⟨rfl, HGR.out.hold.bel.trans (D6.out.mono HGR.out.hold.bel.size)⟩
                        exact AllReadyH.nil
                      exact AllReadyH.nil
                    exact AllReadyH.nil
                  exact AllReadyH.nil
                exact AllReadyH.nil
              exact AllReadyH.nil
            · have hq := fun w => eql_edge f lb tt y0 y1 y2 true w (decide_eq_true h2).symm
              have HL1 : Hid (false = ltE (f, lb, tt) (y0, y1, y2)) := by show _ = _; rw [h2, ltE_irrefl]
              have HL2 : Hid (false = ltE (y0, y1, y2) (f, lb, tt)) := by show _ = _; rw [h2, ltE_irrefl]
              clear h2
              refine wp_region_held_drew (S := fun w' => w'.cell? ⟨P3, 0, none⟩ = some (.int .i64 s) ∧ w'.cell? ⟨P3, 1, none⟩ = some (.slice (some ⟨b, o, none⟩) n c) ∧ w'.cell? ⟨P5, 0, none⟩ = some (.int .i64 f) ∧ w'.cell? ⟨P5, 1, none⟩ = some (.int .u8 lb) ∧ w'.cell? ⟨P5, 2, none⟩ = some (.int .i64 tt) ∧ w'.cell? ⟨P6, 0, none⟩ = some (.int .i64 s) ∧ w'.cell? ⟨P6, 1, none⟩ = some (.slice a6 n6 c6) ∧ w'.cell? ⟨P8, 0, none⟩ = some (.int .i64 s) ∧ w'.cell? ⟨P8, 1, none⟩ = some (.slice a8 n6 c8) ∧ w'.cell? ⟨b, o, none⟩ = some (.int .i64 y0) ∧ w'.cell? ⟨b, o + 1, none⟩ = some (.int .u8 y1) ∧ w'.cell? ⟨b, o + 2, none⟩ = some (.int .i64 y2)) (by kernel_rfl) ⟨q0, q1, q2, q3, q4, q5, q6, q7, q8, p0, p1, p2⟩ (fun hHeld => ?_)
              clear q0 q1 q2 q3 q4 q5 q6 q7 q8 p0 p1 p2
              refine wpAnyH_take (i := 0) (oi := { dst := some 95, op := Go.Op.move (Go.Operand.tmp 7), type := 4, pos := "laws.go:349", after := #[], guard := none }) (v := ?_) rfl (by kernel_rfl) (by kernel_rfl) (by kernel_rfl) (fun _ _ _ h => h) (Or.inl ⟨by kernel_rfl, ?_⟩) (by assumption) ?_
              rotate_left
              · intro w hSw; (try dsimp only at hSw); go_simp; try with_reducible rfl
              simp only [Act.put, List.setIfInBounds_toArray, List.set_cons_zero, List.set_cons_succ]
              refine wpAnyH_take (i := 1) (oi := { dst := some 96, op := Go.Op.move (Go.Operand.tmp 95), type := 4, pos := "laws.go:349", after := #[{ on := 0, ground := Go.Ground.data }], guard := none }) (v := ?_) rfl (by kernel_rfl) (by kernel_rfl) (by kernel_rfl) (fun _ _ _ h => h) (Or.inl ⟨by kernel_rfl, ?_⟩) (by assumption) ?_
              rotate_left
              · intro w hSw; (try dsimp only at hSw); go_simp; try with_reducible rfl
              simp only [Act.put, List.setIfInBounds_toArray, List.set_cons_zero, List.set_cons_succ]
              refine wpAnyH_take (i := 2) (oi := { dst := some 97, op := Go.Op.move (Go.Operand.tmp 9), type := 4, pos := "laws.go:349", after := #[{ on := 1, ground := Go.Ground.guard }], guard := some (1, true) }) (v := ?_) rfl (by kernel_rfl) (by kernel_rfl) (by kernel_rfl) (fun _ _ _ h => h) (Or.inl ⟨by kernel_rfl, ?_⟩) (by assumption) ?_
              rotate_left
              · intro w hSw; (try dsimp only at hSw); go_simp; try with_reducible rfl
              simp only [Act.put, List.setIfInBounds_toArray, List.set_cons_zero, List.set_cons_succ]
              refine wpAnyH_take (i := 3) (oi := { dst := some 98, op := Go.Op.pick (Go.Operand.tmp 96) (Go.Operand.tmp 97) (Go.Operand.const (Go.Value.bool false)), type := 4, pos := "laws.go:349", after := #[{ on := 1, ground := Go.Ground.data }, { on := 2, ground := Go.Ground.data }], guard := none }) (v := ?_) rfl (by kernel_rfl) (by kernel_rfl) (by kernel_rfl) (fun _ _ _ h => h) (Or.inl ⟨by kernel_rfl, ?_⟩) (by assumption) ?_
              rotate_left
              · intro w hSw; (try dsimp only at hSw); go_simp; try with_reducible rfl
              simp only [Act.put, List.setIfInBounds_toArray, List.set_cons_zero, List.set_cons_succ]
              refine wpAnyH_take (i := 4) (oi := { dst := some 99, op := Go.Op.move (Go.Operand.tmp 98), type := 4, pos := "laws.go:349", after := #[{ on := 3, ground := Go.Ground.data }, { on := 1, ground := Go.Ground.chain }], guard := none }) (v := ?_) rfl (by kernel_rfl) (by kernel_rfl) (by kernel_rfl) (fun _ _ _ h => h) (Or.inl ⟨by kernel_rfl, ?_⟩) (by assumption) ?_
              rotate_left
              · intro w hSw; (try dsimp only at hSw); go_simp; try with_reducible rfl
              simp only [Act.put, List.setIfInBounds_toArray, List.set_cons_zero, List.set_cons_succ]
              refine wpAnyH_take (i := 5) (oi := { dst := some 100, op := Go.Op.load 37 (Go.Operand.tmp 8), type := 37, pos := "laws.go:349", after := #[{ on := 4, ground := Go.Ground.guard }], guard := some (4, true) }) (v := ?_) rfl (by kernel_rfl) (by kernel_rfl) (by kernel_rfl) (fun _ _ _ h => h) (Or.inl ⟨by kernel_rfl, ?_⟩) (by assumption) ?_
              rotate_left
              · intro w hSw; (try dsimp only at hSw); go_simp; try with_reducible rfl
              simp only [Act.put, List.setIfInBounds_toArray, List.set_cons_zero, List.set_cons_succ]
              refine wpAnyH_take (i := 6) (oi := { dst := some 101, op := Go.Op.load 37 (Go.Operand.tmp 6), type := 37, pos := "laws.go:349", after := #[{ on := 4, ground := Go.Ground.guard }], guard := some (4, true) }) (v := ?_) rfl (by kernel_rfl) (by kernel_rfl) (by kernel_rfl) (fun _ _ _ h => h) (Or.inl ⟨by kernel_rfl, ?_⟩) (by assumption) ?_
              rotate_left
              · intro w hSw; (try dsimp only at hSw); go_simp; try with_reducible rfl
              simp only [Act.put, List.setIfInBounds_toArray, List.set_cons_zero, List.set_cons_succ]
              refine wpAnyH_ready (rs := [7]) (by kernel_rfl) (by simp) ?_
              refine AllReadyH.cons (o := { dst := some 102, op := Go.Op.call { callee := Go.Callee.value (Go.Operand.func 29), args := #[Go.Operand.tmp 100, Go.Operand.tmp 101], argTypes := #[37, 37] }, type := 4, pos := "laws.go:349", after := #[{ on := 5, ground := Go.Ground.data }, { on := 6, ground := Go.Ground.data }, { on := 4, ground := Go.Ground.chain }, { on := 4, ground := Go.Ground.guard }], guard := some (4, true) }) rfl (fun K hK => ?_) ?_
              · go_simp
                go_wp2_with (go_at_call 29; refine (sameGraph_any 0 P8 0 P6 s a8 a6 n6 c8 c6 KL _ HGR.out.drew.em HGR.out.drew.en HGR.out.lt.2.2 HGR.out.lt.2.1 HKN.out (by have := HN6.out; omega)).mono ?_; rintro e v1 ⟨rfl, C1⟩)
                have D1 : Hid (Below wr.heap.size wr v1) := ((Below.refl wr.heap.size wr).drew).trans C1.out
                have hk_v1 := HK17.out _ D1.out
                refine hK.out _ _ hk_v1 (fun hHeld => ?_)
                clear hK K
                try simp only [Act.put, List.setIfInBounds_toArray, List.set_cons_zero, List.set_cons_succ]
                refine wpAnyH_take (i := 8) (oi := { dst := some 103, op := Go.Op.pick (Go.Operand.tmp 99) (Go.Operand.tmp 102) (Go.Operand.const (Go.Value.bool false)), type := 4, pos := "laws.go:349", after := #[{ on := 4, ground := Go.Ground.data }, { on := 7, ground := Go.Ground.data }], guard := none }) (v := ?_) rfl (by kernel_rfl) (by kernel_rfl) (by kernel_rfl) (fun _ _ _ h => h) (Or.inl ⟨by kernel_rfl, ?_⟩) (by assumption) ?_
                rotate_left
                · intro w hSw; (try dsimp only at hSw); go_simp; try with_reducible rfl
                simp only [Act.put, List.setIfInBounds_toArray, List.set_cons_zero, List.set_cons_succ]
                refine wpAnyH_take (i := 9) (oi := { dst := some 104, op := Go.Op.move (Go.Operand.tmp 103), type := 4, pos := "laws.go:349", after := #[{ on := 8, ground := Go.Ground.data }, { on := 7, ground := Go.Ground.chain }], guard := none }) (v := ?_) rfl (by kernel_rfl) (by kernel_rfl) (by kernel_rfl) (fun _ _ _ h => h) (Or.inl ⟨by kernel_rfl, ?_⟩) (by assumption) ?_
                rotate_left
                · intro w hSw; (try dsimp only at hSw); go_simp; try with_reducible rfl
                simp only [Act.put, List.setIfInBounds_toArray, List.set_cons_zero, List.set_cons_succ]
                refine wpAnyH_take (i := 10) (oi := { dst := some 105, op := Go.Op.fieldAddr 37 (Go.Operand.tmp 6) 1, type := 0, pos := "laws.go:349", after := #[{ on := 9, ground := Go.Ground.guard }], guard := some (9, true) }) (v := ?_) rfl (by kernel_rfl) (by kernel_rfl) (by kernel_rfl) (fun _ _ _ h => h) (Or.inl ⟨by kernel_rfl, ?_⟩) (by assumption) ?_
                rotate_left
                · intro w hSw; (try dsimp only at hSw); go_simp; try with_reducible rfl
                simp only [Act.put, List.setIfInBounds_toArray, List.set_cons_zero, List.set_cons_succ]
                refine wpAnyH_take (i := 11) (oi := { dst := some 106, op := Go.Op.load 35 (Go.Operand.tmp 105), type := 35, pos := "laws.go:349", after := #[{ on := 10, ground := Go.Ground.data }, { on := 9, ground := Go.Ground.guard }], guard := some (9, true) }) (v := ?_) rfl (by kernel_rfl) (by kernel_rfl) (by kernel_rfl) (fun _ _ _ h => h) (Or.inl ⟨by kernel_rfl, ?_⟩) (by assumption) ?_
                rotate_left
                · intro w hSw; (try dsimp only at hSw); go_simp; try with_reducible rfl
                simp only [Act.put, List.setIfInBounds_toArray, List.set_cons_zero, List.set_cons_succ]
                refine wpAnyH_take (i := 12) (oi := { dst := some 107, op := Go.Op.call { callee := Go.Callee.builtin Go.Builtin.len, args := #[Go.Operand.tmp 106], argTypes := #[35] }, type := 3, pos := "laws.go:349", after := #[{ on := 11, ground := Go.Ground.data }, { on := 9, ground := Go.Ground.guard }], guard := some (9, true) }) (v := ?_) rfl (by kernel_rfl) (by kernel_rfl) (by kernel_rfl) (fun _ _ _ h => h) (Or.inl ⟨by kernel_rfl, ?_⟩) (by assumption) ?_
                rotate_left
                · intro w hSw; (try dsimp only at hSw); go_simp; try with_reducible rfl
                simp only [Act.put, List.setIfInBounds_toArray, List.set_cons_zero, List.set_cons_succ]
                refine wpAnyH_take (i := 13) (oi := { dst := some 108, op := Go.Op.move (Go.Operand.tmp 12), type := 3, pos := "laws.go:349", after := #[{ on := 9, ground := Go.Ground.guard }], guard := some (9, true) }) (v := ?_) rfl (by kernel_rfl) (by kernel_rfl) (by kernel_rfl) (fun _ _ _ h => h) (Or.inl ⟨by kernel_rfl, ?_⟩) (by assumption) ?_
                rotate_left
                · intro w hSw; (try dsimp only at hSw); go_simp; try with_reducible rfl
                simp only [Act.put, List.setIfInBounds_toArray, List.set_cons_zero, List.set_cons_succ]
                refine wpAnyH_take (i := 14) (oi := { dst := some 109, op := Go.Op.binOp Go.BinOp.eql 3 (Go.Operand.tmp 107) (Go.Operand.tmp 108) 3, type := 4, pos := "laws.go:349", after := #[{ on := 12, ground := Go.Ground.data }, { on := 13, ground := Go.Ground.data }, { on := 9, ground := Go.Ground.guard }], guard := some (9, true) }) (v := ?_) rfl (by kernel_rfl) (by kernel_rfl) (by kernel_rfl) (fun _ _ _ h => h) (Or.inl ⟨by kernel_rfl, ?_⟩) (by assumption) ?_
                rotate_left
                · intro w hSw; (try dsimp only at hSw); go_simp; try with_reducible rfl
                simp only [Act.put, List.setIfInBounds_toArray, List.set_cons_zero, List.set_cons_succ]
                refine wpAnyH_take (i := 15) (oi := { dst := some 110, op := Go.Op.pick (Go.Operand.tmp 104) (Go.Operand.tmp 109) (Go.Operand.const (Go.Value.bool false)), type := 4, pos := "laws.go:349", after := #[{ on := 9, ground := Go.Ground.data }, { on := 14, ground := Go.Ground.data }], guard := none }) (v := ?_) rfl (by kernel_rfl) (by kernel_rfl) (by kernel_rfl) (fun _ _ _ h => h) (Or.inl ⟨by kernel_rfl, ?_⟩) (by assumption) ?_
                rotate_left
                · intro w hSw; (try dsimp only at hSw); go_simp; try with_reducible rfl
                simp only [Act.put, List.setIfInBounds_toArray, List.set_cons_zero, List.set_cons_succ]
                refine wpAnyH_take (i := 16) (oi := { dst := some 111, op := Go.Op.move (Go.Operand.tmp 110), type := 4, pos := "laws.go:349", after := #[{ on := 15, ground := Go.Ground.data }, { on := 9, ground := Go.Ground.chain }], guard := none }) (v := ?_) rfl (by kernel_rfl) (by kernel_rfl) (by kernel_rfl) (fun _ _ _ h => h) (Or.inl ⟨by kernel_rfl, ?_⟩) (by assumption) ?_
                rotate_left
                · intro w hSw; (try dsimp only at hSw); go_simp; try with_reducible rfl
                simp only [Act.put, List.setIfInBounds_toArray, List.set_cons_zero, List.set_cons_succ]
                refine wpAnyH_take (i := 17) (oi := { dst := some 112, op := Go.Op.load 37 (Go.Operand.tmp 6), type := 37, pos := "laws.go:349", after := #[{ on := 16, ground := Go.Ground.guard }], guard := some (16, true) }) (v := ?_) rfl (by kernel_rfl) (by kernel_rfl) (by kernel_rfl) (fun _ _ _ h => h) (Or.inl ⟨by kernel_rfl, ?_⟩) (by assumption) ?_
                rotate_left
                · intro w hSw; (try dsimp only at hSw); go_simp; try with_reducible rfl
                simp only [Act.put, List.setIfInBounds_toArray, List.set_cons_zero, List.set_cons_succ]
                refine wpAnyH_take (i := 18) (oi := { dst := some 113, op := Go.Op.fieldAddr 42 (Go.Operand.tmp 5) 0, type := 0, pos := "laws.go:349", after := #[{ on := 16, ground := Go.Ground.guard }], guard := some (16, true) }) (v := ?_) rfl (by kernel_rfl) (by kernel_rfl) (by kernel_rfl) (fun _ _ _ h => h) (Or.inl ⟨by kernel_rfl, ?_⟩) (by assumption) ?_
                rotate_left
                · intro w hSw; (try dsimp only at hSw); go_simp; try with_reducible rfl
                simp only [Act.put, List.setIfInBounds_toArray, List.set_cons_zero, List.set_cons_succ]
                refine wpAnyH_take (i := 19) (oi := { dst := some 114, op := Go.Op.load 3 (Go.Operand.tmp 113), type := 3, pos := "laws.go:349", after := #[{ on := 18, ground := Go.Ground.data }, { on := 16, ground := Go.Ground.guard }], guard := some (16, true) }) (v := ?_) rfl (by kernel_rfl) (by kernel_rfl) (by kernel_rfl) (fun _ _ _ h => h) (Or.inl ⟨by kernel_rfl, ?_⟩) (by assumption) ?_
                rotate_left
                · intro w hSw; (try dsimp only at hSw); go_simp; try with_reducible rfl
                simp only [Act.put, List.setIfInBounds_toArray, List.set_cons_zero, List.set_cons_succ]
                refine wpAnyH_take (i := 20) (oi := { dst := some 115, op := Go.Op.fieldAddr 42 (Go.Operand.tmp 5) 1, type := 0, pos := "laws.go:349", after := #[{ on := 16, ground := Go.Ground.guard }], guard := some (16, true) }) (v := ?_) rfl (by kernel_rfl) (by kernel_rfl) (by kernel_rfl) (fun _ _ _ h => h) (Or.inl ⟨by kernel_rfl, ?_⟩) (by assumption) ?_
                rotate_left
                · intro w hSw; (try dsimp only at hSw); go_simp; try with_reducible rfl
                simp only [Act.put, List.setIfInBounds_toArray, List.set_cons_zero, List.set_cons_succ]
                refine wpAnyH_take (i := 21) (oi := { dst := some 116, op := Go.Op.load 5 (Go.Operand.tmp 115), type := 5, pos := "laws.go:349", after := #[{ on := 20, ground := Go.Ground.data }, { on := 16, ground := Go.Ground.guard }], guard := some (16, true) }) (v := ?_) rfl (by kernel_rfl) (by kernel_rfl) (by kernel_rfl) (fun _ _ _ h => h) (Or.inl ⟨by kernel_rfl, ?_⟩) (by assumption) ?_
                rotate_left
                · intro w hSw; (try dsimp only at hSw); go_simp; try with_reducible rfl
                simp only [Act.put, List.setIfInBounds_toArray, List.set_cons_zero, List.set_cons_succ]
                refine wpAnyH_take (i := 23) (oi := { dst := some 118, op := Go.Op.fieldAddr 42 (Go.Operand.tmp 5) 2, type := 0, pos := "laws.go:349", after := #[{ on := 16, ground := Go.Ground.guard }], guard := some (16, true) }) (v := ?_) rfl (by kernel_rfl) (by kernel_rfl) (by kernel_rfl) (fun _ _ _ h => h) (Or.inl ⟨by kernel_rfl, ?_⟩) (by assumption) ?_
                rotate_left
                · intro w hSw; (try dsimp only at hSw); go_simp; try with_reducible rfl
                simp only [Act.put, List.setIfInBounds_toArray, List.set_cons_zero, List.set_cons_succ]
                refine wpAnyH_take (i := 24) (oi := { dst := some 119, op := Go.Op.load 3 (Go.Operand.tmp 118), type := 3, pos := "laws.go:349", after := #[{ on := 23, ground := Go.Ground.data }, { on := 16, ground := Go.Ground.guard }], guard := some (16, true) }) (v := ?_) rfl (by kernel_rfl) (by kernel_rfl) (by kernel_rfl) (fun _ _ _ h => h) (Or.inl ⟨by kernel_rfl, ?_⟩) (by assumption) ?_
                rotate_left
                · intro w hSw; (try dsimp only at hSw); go_simp; try with_reducible rfl
                simp only [Act.put, List.setIfInBounds_toArray, List.set_cons_zero, List.set_cons_succ]
                refine wpAnyH_ready (rs := [22]) (by kernel_rfl) (by simp) ?_
                refine AllReadyH.cons (o := { dst := some 117, op := Go.Op.call { callee := Go.Callee.value (Go.Operand.func 28), args := #[Go.Operand.tmp 112, Go.Operand.tmp 114, Go.Operand.tmp 116], argTypes := #[37, 3, 5] }, type := 39, pos := "laws.go:349", after := #[{ on := 17, ground := Go.Ground.data }, { on := 19, ground := Go.Ground.data }, { on := 21, ground := Go.Ground.data }, { on := 16, ground := Go.Ground.chain }, { on := 16, ground := Go.Ground.guard }], guard := some (16, true) }) rfl (fun K hK => ?_) ?_
                · go_simp
                  go_wp2_with (go_at_call 28; refine (nextOf_any 0 P6 s a6 n6 c6 KL f lb v1 (HGR.out.below D1.out).en (HGR.out.below D1.out).lt.2.1 HKN.out (by have := HN6.out; omega)).mono ?_; rintro e v3 ⟨a3, n3, c3, rfl, HN3, HR3, C3⟩)
                  have D3 : Hid (Below wr.heap.size wr v3) := D1.out.trans (C3.out.mono D1.out.size)
                  have hk_v3 := HK17.out _ D3.out
                  refine hK.out _ _ hk_v3 (fun hHeld => ?_)
                  clear hK K
                  try simp only [Act.put, List.setIfInBounds_toArray, List.set_cons_zero, List.set_cons_succ]
                  refine wpAnyH_ready (rs := [25]) (by kernel_rfl) (by simp) ?_
                  refine AllReadyH.cons (o := { dst := some 120, op := Go.Op.call { callee := Go.Callee.value (Go.Operand.func 26), args := #[Go.Operand.tmp 117, Go.Operand.tmp 119], argTypes := #[39, 3] }, type := 4, pos := "laws.go:349", after := #[{ on := 22, ground := Go.Ground.data }, { on := 24, ground := Go.Ground.data }, { on := 22, ground := Go.Ground.chain }, { on := 16, ground := Go.Ground.guard }], guard := some (16, true) }) rfl (fun K hK => ?_) ?_
                  · go_simp
                    go_wp2_with (go_at_call 26; refine (in_any _ _ a3 n3 c3 (nextE KL f lb) tt v3 HR3.out.toIn HN3.out (by have := nextE_len KL f lb; have := HN3.out; have := HKN.out; have := HN6.out; omega) HME.out).mono ?_; rintro e v4 ⟨rfl, C4⟩)
                    have D4 : Hid (Below wr.heap.size wr v4) := D3.out.trans (C4.out.mono D3.out.size)
                    have hk_v4 := HK17.out _ D4.out
                    refine hK.out _ _ hk_v4 (fun hHeld => ?_)
                    clear hK K
                    try simp only [Act.put, List.setIfInBounds_toArray, List.set_cons_zero, List.set_cons_succ]
                    refine wpAnyH_take (i := 26) (oi := { dst := some 121, op := Go.Op.pick (Go.Operand.tmp 111) (Go.Operand.tmp 120) (Go.Operand.const (Go.Value.bool false)), type := 4, pos := "laws.go:349", after := #[{ on := 16, ground := Go.Ground.data }, { on := 25, ground := Go.Ground.data }], guard := none }) (v := ?_) rfl (by kernel_rfl) (by kernel_rfl) (by kernel_rfl) (fun _ _ _ h => h) (Or.inl ⟨by kernel_rfl, ?_⟩) (by assumption) ?_
                    rotate_left
                    · intro w hSw; (try dsimp only at hSw); go_simp; try with_reducible rfl
                    simp only [Act.put, List.setIfInBounds_toArray, List.set_cons_zero, List.set_cons_succ]
                    refine wpAnyH_take (i := 27) (oi := { dst := some 122, op := Go.Op.move (Go.Operand.tmp 121), type := 4, pos := "laws.go:349", after := #[{ on := 26, ground := Go.Ground.data }, { on := 25, ground := Go.Ground.chain }], guard := none }) (v := ?_) rfl (by kernel_rfl) (by kernel_rfl) (by kernel_rfl) (fun _ _ _ h => h) (Or.inl ⟨by kernel_rfl, ?_⟩) (by assumption) ?_
                    rotate_left
                    · intro w hSw; (try dsimp only at hSw); go_simp; try with_reducible rfl
                    simp only [Act.put, List.setIfInBounds_toArray, List.set_cons_zero, List.set_cons_succ]
                    refine wpAnyH_take (i := 28) (oi := { dst := some 123, op := Go.Op.load 37 (Go.Operand.tmp 6), type := 37, pos := "laws.go:349", after := #[{ on := 27, ground := Go.Ground.guard }], guard := some (27, true) }) (v := ?_) rfl (by kernel_rfl) (by kernel_rfl) (by kernel_rfl) (fun _ _ _ h => h) (Or.inl ⟨by kernel_rfl, ?_⟩) (by assumption) ?_
                    rotate_left
                    · intro w hSw; (try dsimp only at hSw); go_simp; try with_reducible rfl
                    simp only [Act.put, List.setIfInBounds_toArray, List.set_cons_zero, List.set_cons_succ]
                    refine wpAnyH_ready (rs := [29]) (by kernel_rfl) (by simp) ?_
                    refine AllReadyH.cons (o := { dst := some 124, op := Go.Op.call { callee := Go.Callee.value (Go.Operand.func 30), args := #[Go.Operand.tmp 123], argTypes := #[37] }, type := 4, pos := "laws.go:349", after := #[{ on := 28, ground := Go.Ground.data }, { on := 27, ground := Go.Ground.chain }, { on := 27, ground := Go.Ground.guard }], guard := some (27, true) }) rfl (fun K hK => ?_) ?_
                    · go_simp
                      go_wp2_with (go_at_call 30; refine (graphOk_any 0 P6 s a6 n6 c6 KL true v4 (HGR.out.below D4.out).en (HGR.out.below D4.out).lt.2.1 HKN.out (by have := HN6.out; omega) HKO.out.symm).mono ?_; rintro e v5 ⟨rfl, C5⟩)
                      have D5 : Hid (Below wr.heap.size wr v5) := D4.out.trans (C5.out.mono D4.out.size)
                      have hk_v5 := HK17.out _ D5.out
                      refine hK.out _ _ hk_v5 (fun hHeld => ?_)
                      clear hK K
                      try simp only [Act.put, List.setIfInBounds_toArray, List.set_cons_zero, List.set_cons_succ]
                      refine wpAnyH_take (i := 30) (oi := { dst := some 125, op := Go.Op.pick (Go.Operand.tmp 122) (Go.Operand.tmp 124) (Go.Operand.const (Go.Value.bool false)), type := 4, pos := "laws.go:349", after := #[{ on := 27, ground := Go.Ground.data }, { on := 29, ground := Go.Ground.data }], guard := none }) (v := ?_) rfl (by kernel_rfl) (by kernel_rfl) (by kernel_rfl) (fun _ _ _ h => h) (Or.inl ⟨by kernel_rfl, ?_⟩) (by assumption) ?_
                      rotate_left
                      · intro w hSw; (try dsimp only at hSw); go_simp; try with_reducible rfl
                      simp only [Act.put, List.setIfInBounds_toArray, List.set_cons_zero, List.set_cons_succ]
                      refine wpAnyH_take (i := 31) (oi := { dst := some 126, op := Go.Op.move (Go.Operand.tmp 125), type := 4, pos := "laws.go:349", after := #[{ on := 30, ground := Go.Ground.data }, { on := 29, ground := Go.Ground.chain }], guard := none }) (v := ?_) rfl (by kernel_rfl) (by kernel_rfl) (by kernel_rfl) (fun _ _ _ h => h) (Or.inl ⟨by kernel_rfl, ?_⟩) (by assumption) ?_
                      rotate_left
                      · intro w hSw; (try dsimp only at hSw); go_simp; try with_reducible rfl
                      simp only [Act.put, List.setIfInBounds_toArray, List.set_cons_zero, List.set_cons_succ]
                      refine wpAnyH_take (i := 32) (oi := { dst := some 127, op := Go.Op.load 42 (Go.Operand.tmp 5), type := 42, pos := "laws.go:349", after := #[{ on := 31, ground := Go.Ground.guard }], guard := some (31, true) }) (v := ?_) rfl (by kernel_rfl) (by kernel_rfl) (by kernel_rfl) (fun _ _ _ h => h) (Or.inl ⟨by kernel_rfl, ?_⟩) (by assumption) ?_
                      rotate_left
                      · intro w hSw; (try dsimp only at hSw); go_simp; try with_reducible rfl
                      simp only [Act.put, List.setIfInBounds_toArray, List.set_cons_zero, List.set_cons_succ]
                      refine wpAnyH_take (i := 33) (oi := { dst := some 128, op := Go.Op.fieldAddr 37 (Go.Operand.tmp 3) 1, type := 0, pos := "laws.go:349", after := #[{ on := 31, ground := Go.Ground.guard }], guard := some (31, true) }) (v := ?_) rfl (by kernel_rfl) (by kernel_rfl) (by kernel_rfl) (fun _ _ _ h => h) (Or.inl ⟨by kernel_rfl, ?_⟩) (by assumption) ?_
                      rotate_left
                      · intro w hSw; (try dsimp only at hSw); go_simp; try with_reducible rfl
                      simp only [Act.put, List.setIfInBounds_toArray, List.set_cons_zero, List.set_cons_succ]
                      refine wpAnyH_take (i := 34) (oi := { dst := some 129, op := Go.Op.load 35 (Go.Operand.tmp 128), type := 35, pos := "laws.go:349", after := #[{ on := 33, ground := Go.Ground.data }, { on := 31, ground := Go.Ground.guard }], guard := some (31, true) }) (v := ?_) rfl (by kernel_rfl) (by kernel_rfl) (by kernel_rfl) (fun _ _ _ h => h) (Or.inl ⟨by kernel_rfl, ?_⟩) (by assumption) ?_
                      rotate_left
                      · intro w hSw; (try dsimp only at hSw); go_simp; try with_reducible rfl
                      simp only [Act.put, List.setIfInBounds_toArray, List.set_cons_zero, List.set_cons_succ]
                      refine wpAnyH_take (i := 35) (oi := { dst := some 130, op := Go.Op.indexAddr 35 (Go.Operand.tmp 129) (Go.Operand.const (Go.Value.int Go.IntKind.i64 0)), type := 0, pos := "laws.go:349", after := #[{ on := 34, ground := Go.Ground.data }, { on := 31, ground := Go.Ground.guard }], guard := some (31, true) }) (v := ?_) rfl (by kernel_rfl) (by kernel_rfl) (by kernel_rfl) (fun _ _ _ h => h) (Or.inl ⟨by kernel_rfl, ?_⟩) (by assumption) ?_
                      rotate_left
                      · intro w hSw; (try dsimp only at hSw); go_simp; try with_reducible rfl
                      simp only [Act.put, List.setIfInBounds_toArray, List.set_cons_zero, List.set_cons_succ]
                      refine wpAnyH_take (i := 36) (oi := { dst := some 131, op := Go.Op.load 42 (Go.Operand.tmp 130), type := 42, pos := "laws.go:349", after := #[{ on := 35, ground := Go.Ground.data }, { on := 31, ground := Go.Ground.guard }], guard := some (31, true) }) (v := ?_) rfl (by kernel_rfl) (by kernel_rfl) (by kernel_rfl) (fun _ _ _ h => h) (Or.inl ⟨by kernel_rfl, ?_⟩) (by assumption) ?_
                      rotate_left
                      · intro w hSw; (try dsimp only at hSw); go_simp; try with_reducible rfl
                      simp only [Act.put, List.setIfInBounds_toArray, List.set_cons_zero, List.set_cons_succ]
                      refine wpAnyH_ready (rs := [37]) (by kernel_rfl) (by simp) ?_
                      refine AllReadyH.cons (o := { dst := some 132, op := Go.Op.call { callee := Go.Callee.value (Go.Operand.func 31), args := #[Go.Operand.tmp 127, Go.Operand.tmp 131], argTypes := #[42, 42] }, type := 4, pos := "laws.go:349", after := #[{ on := 32, ground := Go.Ground.data }, { on := 36, ground := Go.Ground.data }, { on := 31, ground := Go.Ground.chain }, { on := 31, ground := Go.Ground.guard }], guard := some (31, true) }) rfl (fun K hK => ?_) ?_
                      · go_simp
                        go_wp2_with (go_at_call 31; refine (edgeLess_any (f, lb, tt) (y0, y1, y2) false v5 HL1.out).mono ?_; rintro e v6 ⟨rfl, C6⟩)
                        have D6 : Hid (Below wr.heap.size wr v6) := D5.out.trans (C6.out.mono D5.out.size)
                        have hk_v6 := HK17.out _ D6.out
                        refine hK.out _ _ hk_v6 (fun hHeld => ?_)
                        clear hK K
                        try simp only [Act.put, List.setIfInBounds_toArray, List.set_cons_zero, List.set_cons_succ]
                        refine wpAnyH_take (i := 38) (oi := { dst := some 133, op := Go.Op.move (Go.Operand.tmp 132), type := 4, pos := "laws.go:349", after := #[{ on := 37, ground := Go.Ground.data }, { on := 37, ground := Go.Ground.chain }, { on := 31, ground := Go.Ground.guard }], guard := some (31, true) }) (v := ?_) rfl (by kernel_rfl) (by kernel_rfl) (by kernel_rfl) (fun _ _ _ h => h) (Or.inl ⟨by kernel_rfl, ?_⟩) (by assumption) ?_
                        rotate_left
                        · intro w hSw; (try dsimp only at hSw); go_simp; try with_reducible rfl
                        simp only [Act.put, List.setIfInBounds_toArray, List.set_cons_zero, List.set_cons_succ]
                        refine wpAnyH_take (i := 39) (oi := { dst := some 134, op := Go.Op.fieldAddr 37 (Go.Operand.tmp 3) 1, type := 0, pos := "laws.go:349", after := #[{ on := 38, ground := Go.Ground.guard }], guard := some (38, false) }) (v := ?_) rfl (by kernel_rfl) (by kernel_rfl) (by kernel_rfl) (fun _ _ _ h => h) (Or.inl ⟨by kernel_rfl, ?_⟩) (by assumption) ?_
                        rotate_left
                        · intro w hSw; (try dsimp only at hSw); go_simp; try with_reducible rfl
                        simp only [Act.put, List.setIfInBounds_toArray, List.set_cons_zero, List.set_cons_succ]
                        refine wpAnyH_take (i := 40) (oi := { dst := some 135, op := Go.Op.load 35 (Go.Operand.tmp 134), type := 35, pos := "laws.go:349", after := #[{ on := 39, ground := Go.Ground.data }, { on := 38, ground := Go.Ground.guard }], guard := some (38, false) }) (v := ?_) rfl (by kernel_rfl) (by kernel_rfl) (by kernel_rfl) (fun _ _ _ h => h) (Or.inl ⟨by kernel_rfl, ?_⟩) (by assumption) ?_
                        rotate_left
                        · intro w hSw; (try dsimp only at hSw); go_simp; try with_reducible rfl
                        simp only [Act.put, List.setIfInBounds_toArray, List.set_cons_zero, List.set_cons_succ]
                        refine wpAnyH_take (i := 41) (oi := { dst := some 136, op := Go.Op.indexAddr 35 (Go.Operand.tmp 135) (Go.Operand.const (Go.Value.int Go.IntKind.i64 0)), type := 0, pos := "laws.go:349", after := #[{ on := 40, ground := Go.Ground.data }, { on := 38, ground := Go.Ground.guard }], guard := some (38, false) }) (v := ?_) rfl (by kernel_rfl) (by kernel_rfl) (by kernel_rfl) (fun _ _ _ h => h) (Or.inl ⟨by kernel_rfl, ?_⟩) (by assumption) ?_
                        rotate_left
                        · intro w hSw; (try dsimp only at hSw); go_simp; try with_reducible rfl
                        simp only [Act.put, List.setIfInBounds_toArray, List.set_cons_zero, List.set_cons_succ]
                        refine wpAnyH_take (i := 42) (oi := { dst := some 137, op := Go.Op.load 42 (Go.Operand.tmp 136), type := 42, pos := "laws.go:349", after := #[{ on := 41, ground := Go.Ground.data }, { on := 38, ground := Go.Ground.guard }], guard := some (38, false) }) (v := ?_) rfl (by kernel_rfl) (by kernel_rfl) (by kernel_rfl) (fun _ _ _ h => h) (Or.inl ⟨by kernel_rfl, ?_⟩) (by assumption) ?_
                        rotate_left
                        · intro w hSw; (try dsimp only at hSw); go_simp; try with_reducible rfl
                        simp only [Act.put, List.setIfInBounds_toArray, List.set_cons_zero, List.set_cons_succ]
                        refine wpAnyH_take (i := 43) (oi := { dst := some 138, op := Go.Op.load 42 (Go.Operand.tmp 5), type := 42, pos := "laws.go:349", after := #[{ on := 38, ground := Go.Ground.guard }], guard := some (38, false) }) (v := ?_) rfl (by kernel_rfl) (by kernel_rfl) (by kernel_rfl) (fun _ _ _ h => h) (Or.inl ⟨by kernel_rfl, ?_⟩) (by assumption) ?_
                        rotate_left
                        · intro w hSw; (try dsimp only at hSw); go_simp; try with_reducible rfl
                        simp only [Act.put, List.setIfInBounds_toArray, List.set_cons_zero, List.set_cons_succ]
                        refine wpAnyH_ready (rs := [44]) (by kernel_rfl) (by simp) ?_
                        refine AllReadyH.cons (o := { dst := some 139, op := Go.Op.call { callee := Go.Callee.value (Go.Operand.func 31), args := #[Go.Operand.tmp 137, Go.Operand.tmp 138], argTypes := #[42, 42] }, type := 4, pos := "laws.go:349", after := #[{ on := 42, ground := Go.Ground.data }, { on := 43, ground := Go.Ground.data }, { on := 38, ground := Go.Ground.chain }, { on := 38, ground := Go.Ground.guard }], guard := some (38, false) }) rfl (fun K hK => ?_) ?_
                        · go_simp
                          go_wp2_with (go_at_call 31; refine (edgeLess_any (y0, y1, y2) (f, lb, tt) false v6 HL2.out).mono ?_; rintro e v7 ⟨rfl, C7⟩)
                          have D7 : Hid (Below wr.heap.size wr v7) := D6.out.trans (C7.out.mono D6.out.size)
                          have hk_v7 := HK17.out _ D7.out
                          refine hK.out _ _ hk_v7 (fun hHeld => ?_)
                          clear hK K
                          try simp only [Act.put, List.setIfInBounds_toArray, List.set_cons_zero, List.set_cons_succ]
                          refine wpAnyH_take (i := 45) (oi := { dst := some 140, op := Go.Op.pick (Go.Operand.tmp 133) (Go.Operand.const (Go.Value.bool true)) (Go.Operand.tmp 139), type := 4, pos := "laws.go:349", after := #[{ on := 38, ground := Go.Ground.data }, { on := 44, ground := Go.Ground.data }, { on := 31, ground := Go.Ground.guard }], guard := some (31, true) }) (v := ?_) rfl (by kernel_rfl) (by kernel_rfl) (by kernel_rfl) (fun _ _ _ h => h) (Or.inl ⟨by kernel_rfl, ?_⟩) (by assumption) ?_
                          rotate_left
                          · intro w hSw; (try dsimp only at hSw); go_simp; try with_reducible rfl
                          simp only [Act.put, List.setIfInBounds_toArray, List.set_cons_zero, List.set_cons_succ]
                          refine wpAnyH_take (i := 46) (oi := { dst := some 141, op := Go.Op.move (Go.Operand.tmp 140), type := 4, pos := "laws.go:349", after := #[{ on := 45, ground := Go.Ground.data }, { on := 44, ground := Go.Ground.chain }, { on := 31, ground := Go.Ground.guard }], guard := some (31, true) }) (v := ?_) rfl (by kernel_rfl) (by kernel_rfl) (by kernel_rfl) (fun _ _ _ h => h) (Or.inl ⟨by kernel_rfl, ?_⟩) (by assumption) ?_
                          rotate_left
                          · intro w hSw; (try dsimp only at hSw); go_simp; try with_reducible rfl
                          simp only [Act.put, List.setIfInBounds_toArray, List.set_cons_zero, List.set_cons_succ]
                          refine wpAnyH_take (i := 47) (oi := { dst := some 142, op := Go.Op.load 42 (Go.Operand.tmp 5), type := 42, pos := "laws.go:349", after := #[{ on := 46, ground := Go.Ground.guard }], guard := some (46, false) }) (v := ?_) rfl (by kernel_rfl) (by kernel_rfl) (by kernel_rfl) (fun _ _ _ h => h) (Or.inl ⟨by kernel_rfl, ?_⟩) (by assumption) ?_
                          rotate_left
                          · intro w hSw; (try dsimp only at hSw); go_simp; try with_reducible rfl
                          simp only [Act.put, List.setIfInBounds_toArray, List.set_cons_zero, List.set_cons_succ]
                          refine wpAnyH_take (i := 48) (oi := { dst := some 143, op := Go.Op.fieldAddr 37 (Go.Operand.tmp 3) 1, type := 0, pos := "laws.go:349", after := #[{ on := 46, ground := Go.Ground.guard }], guard := some (46, false) }) (v := ?_) rfl (by kernel_rfl) (by kernel_rfl) (by kernel_rfl) (fun _ _ _ h => h) (Or.inl ⟨by kernel_rfl, ?_⟩) (by assumption) ?_
                          rotate_left
                          · intro w hSw; (try dsimp only at hSw); go_simp; try with_reducible rfl
                          simp only [Act.put, List.setIfInBounds_toArray, List.set_cons_zero, List.set_cons_succ]
                          refine wpAnyH_take (i := 49) (oi := { dst := some 144, op := Go.Op.load 35 (Go.Operand.tmp 143), type := 35, pos := "laws.go:349", after := #[{ on := 48, ground := Go.Ground.data }, { on := 46, ground := Go.Ground.guard }], guard := some (46, false) }) (v := ?_) rfl (by kernel_rfl) (by kernel_rfl) (by kernel_rfl) (fun _ _ _ h => h) (Or.inl ⟨by kernel_rfl, ?_⟩) (by assumption) ?_
                          rotate_left
                          · intro w hSw; (try dsimp only at hSw); go_simp; try with_reducible rfl
                          simp only [Act.put, List.setIfInBounds_toArray, List.set_cons_zero, List.set_cons_succ]
                          refine wpAnyH_take (i := 50) (oi := { dst := some 145, op := Go.Op.indexAddr 35 (Go.Operand.tmp 144) (Go.Operand.const (Go.Value.int Go.IntKind.i64 0)), type := 0, pos := "laws.go:349", after := #[{ on := 49, ground := Go.Ground.data }, { on := 46, ground := Go.Ground.guard }], guard := some (46, false) }) (v := ?_) rfl (by kernel_rfl) (by kernel_rfl) (by kernel_rfl) (fun _ _ _ h => h) (Or.inl ⟨by kernel_rfl, ?_⟩) (by assumption) ?_
                          rotate_left
                          · intro w hSw; (try dsimp only at hSw); go_simp; try with_reducible rfl
                          simp only [Act.put, List.setIfInBounds_toArray, List.set_cons_zero, List.set_cons_succ]
                          refine wpAnyH_take (i := 51) (oi := { dst := some 146, op := Go.Op.load 42 (Go.Operand.tmp 145), type := 42, pos := "laws.go:349", after := #[{ on := 50, ground := Go.Ground.data }, { on := 46, ground := Go.Ground.guard }], guard := some (46, false) }) (v := ?_) rfl (by kernel_rfl) (by kernel_rfl) (by kernel_rfl) (fun _ _ _ h => h) (Or.inl ⟨by kernel_rfl, ?_⟩) (by assumption) ?_
                          rotate_left
                          · intro w hSw; (try dsimp only at hSw); go_simp; try with_reducible rfl
                          simp only [Act.put, List.setIfInBounds_toArray, List.set_cons_zero, List.set_cons_succ]
                          refine wpAnyH_take (i := 52) (oi := { dst := some 147, op := Go.Op.binOp Go.BinOp.eql 42 (Go.Operand.tmp 142) (Go.Operand.tmp 146) 42, type := 4, pos := "laws.go:349", after := #[{ on := 47, ground := Go.Ground.data }, { on := 51, ground := Go.Ground.data }, { on := 46, ground := Go.Ground.guard }], guard := some (46, false) }) (v := ?_) rfl (by kernel_rfl) (by kernel_rfl) (by kernel_rfl) (fun _ _ _ h => h) (Or.inl ⟨by kernel_rfl, ?_⟩) (by assumption) ?_
                          rotate_left
                          · intro w hSw; (try dsimp only at hSw); go_simp; try with_reducible rfl
                          simp only [Act.put, List.setIfInBounds_toArray, List.set_cons_zero, List.set_cons_succ]
                          refine wpAnyH_take (i := 53) (oi := { dst := some 148, op := Go.Op.pick (Go.Operand.tmp 141) (Go.Operand.const (Go.Value.bool true)) (Go.Operand.tmp 147), type := 4, pos := "laws.go:349", after := #[{ on := 46, ground := Go.Ground.data }, { on := 52, ground := Go.Ground.data }, { on := 31, ground := Go.Ground.guard }], guard := some (31, true) }) (v := ?_) rfl (by kernel_rfl) (by kernel_rfl) (by kernel_rfl) (fun _ _ _ h => h) (Or.inl ⟨by kernel_rfl, ?_⟩) (by assumption) ?_
                          rotate_left
                          · intro w hSw; (try dsimp only at hSw); go_simp; try with_reducible rfl
                          simp only [Act.put, List.setIfInBounds_toArray, List.set_cons_zero, List.set_cons_succ]
                          refine wpAnyH_take (i := 54) (oi := { dst := some 149, op := Go.Op.pick (Go.Operand.tmp 126) (Go.Operand.tmp 148) (Go.Operand.const (Go.Value.bool false)), type := 4, pos := "laws.go:349", after := #[{ on := 31, ground := Go.Ground.data }, { on := 53, ground := Go.Ground.data }], guard := none }) (v := ?_) rfl (by kernel_rfl) (by kernel_rfl) (by kernel_rfl) (fun _ _ _ h => h) (Or.inl ⟨by kernel_rfl, ?_⟩) (by assumption) ?_
                          rotate_left
                          · intro w hSw; (try dsimp only at hSw); go_simp; try with_reducible rfl
                          simp only [Act.put, List.setIfInBounds_toArray, List.set_cons_zero, List.set_cons_succ]
                          refine wpAnyH_take (i := 55) (oi := { dst := some 2, op := Go.Op.assign (Go.Operand.tmp 149), type := 4, pos := "laws.go:349", after := #[{ on := 54, ground := Go.Ground.data }, { on := 46, ground := Go.Ground.chain }, { on := 0, ground := Go.Ground.phase }, { on := 1, ground := Go.Ground.phase }, { on := 2, ground := Go.Ground.phase }, { on := 3, ground := Go.Ground.phase }, { on := 4, ground := Go.Ground.phase }, { on := 5, ground := Go.Ground.phase }, { on := 6, ground := Go.Ground.phase }, { on := 7, ground := Go.Ground.phase }, { on := 8, ground := Go.Ground.phase }, { on := 9, ground := Go.Ground.phase }, { on := 10, ground := Go.Ground.phase }, { on := 11, ground := Go.Ground.phase }, { on := 12, ground := Go.Ground.phase }, { on := 13, ground := Go.Ground.phase }, { on := 14, ground := Go.Ground.phase }, { on := 15, ground := Go.Ground.phase }, { on := 16, ground := Go.Ground.phase }, { on := 17, ground := Go.Ground.phase }, { on := 18, ground := Go.Ground.phase }, { on := 19, ground := Go.Ground.phase }, { on := 20, ground := Go.Ground.phase }, { on := 21, ground := Go.Ground.phase }, { on := 22, ground := Go.Ground.phase }, { on := 23, ground := Go.Ground.phase }, { on := 24, ground := Go.Ground.phase }, { on := 25, ground := Go.Ground.phase }, { on := 26, ground := Go.Ground.phase }, { on := 27, ground := Go.Ground.phase }, { on := 28, ground := Go.Ground.phase }, { on := 29, ground := Go.Ground.phase }, { on := 30, ground := Go.Ground.phase }, { on := 31, ground := Go.Ground.phase }, { on := 32, ground := Go.Ground.phase }, { on := 33, ground := Go.Ground.phase }, { on := 34, ground := Go.Ground.phase }, { on := 35, ground := Go.Ground.phase }, { on := 36, ground := Go.Ground.phase }, { on := 37, ground := Go.Ground.phase }, { on := 38, ground := Go.Ground.phase }, { on := 39, ground := Go.Ground.phase }, { on := 40, ground := Go.Ground.phase }, { on := 41, ground := Go.Ground.phase }, { on := 42, ground := Go.Ground.phase }, { on := 43, ground := Go.Ground.phase }, { on := 44, ground := Go.Ground.phase }, { on := 45, ground := Go.Ground.phase }, { on := 46, ground := Go.Ground.phase }, { on := 47, ground := Go.Ground.phase }, { on := 48, ground := Go.Ground.phase }, { on := 49, ground := Go.Ground.phase }, { on := 50, ground := Go.Ground.phase }, { on := 51, ground := Go.Ground.phase }, { on := 52, ground := Go.Ground.phase }, { on := 53, ground := Go.Ground.phase }, { on := 54, ground := Go.Ground.phase }], guard := none }) (v := ?_) rfl (by kernel_rfl) (by kernel_rfl) (by kernel_rfl) (fun _ _ _ h => h) (Or.inl ⟨by kernel_rfl, ?_⟩) (by assumption) ?_
                          rotate_left
                          · intro w hSw; (try dsimp only at hSw); go_simp; try with_reducible rfl
                          simp only [Act.put, List.setIfInBounds_toArray, List.set_cons_zero, List.set_cons_succ]
                          refine wpAnyH_done (by kernel_rfl) ?_ _
                          clear hHeld
                          go_wp2
                          go_ret
                          exact ⟨rfl, HGR.out.hold.bel.trans (D7.out.mono HGR.out.hold.bel.size)⟩
                        exact AllReadyH.nil
                      exact AllReadyH.nil
                    exact AllReadyH.nil
                  exact AllReadyH.nil
                exact AllReadyH.nil
              exact AllReadyH.nil
            · have HL1 : Hid (false = ltE (f, lb, tt) (y0, y1, y2)) := (ltE_asymm h3).symm
              have HL2 : Hid (true = ltE (y0, y1, y2) (f, lb, tt)) := h3.symm
              clear h3
              refine wp_region_held_drew (S := fun w' => w'.cell? ⟨P3, 0, none⟩ = some (.int .i64 s) ∧ w'.cell? ⟨P3, 1, none⟩ = some (.slice (some ⟨b, o, none⟩) n c) ∧ w'.cell? ⟨P5, 0, none⟩ = some (.int .i64 f) ∧ w'.cell? ⟨P5, 1, none⟩ = some (.int .u8 lb) ∧ w'.cell? ⟨P5, 2, none⟩ = some (.int .i64 tt) ∧ w'.cell? ⟨P6, 0, none⟩ = some (.int .i64 s) ∧ w'.cell? ⟨P6, 1, none⟩ = some (.slice a6 n6 c6) ∧ w'.cell? ⟨P8, 0, none⟩ = some (.int .i64 s) ∧ w'.cell? ⟨P8, 1, none⟩ = some (.slice a8 n6 c8) ∧ w'.cell? ⟨b, o, none⟩ = some (.int .i64 y0) ∧ w'.cell? ⟨b, o + 1, none⟩ = some (.int .u8 y1) ∧ w'.cell? ⟨b, o + 2, none⟩ = some (.int .i64 y2)) (by kernel_rfl) ⟨q0, q1, q2, q3, q4, q5, q6, q7, q8, p0, p1, p2⟩ (fun hHeld => ?_)
              clear q0 q1 q2 q3 q4 q5 q6 q7 q8 p0 p1 p2
              refine wpAnyH_take (i := 0) (oi := { dst := some 95, op := Go.Op.move (Go.Operand.tmp 7), type := 4, pos := "laws.go:349", after := #[], guard := none }) (v := ?_) rfl (by kernel_rfl) (by kernel_rfl) (by kernel_rfl) (fun _ _ _ h => h) (Or.inl ⟨by kernel_rfl, ?_⟩) (by assumption) ?_
              rotate_left
              · intro w hSw; (try dsimp only at hSw); go_simp; try with_reducible rfl
              simp only [Act.put, List.setIfInBounds_toArray, List.set_cons_zero, List.set_cons_succ]
              refine wpAnyH_take (i := 1) (oi := { dst := some 96, op := Go.Op.move (Go.Operand.tmp 95), type := 4, pos := "laws.go:349", after := #[{ on := 0, ground := Go.Ground.data }], guard := none }) (v := ?_) rfl (by kernel_rfl) (by kernel_rfl) (by kernel_rfl) (fun _ _ _ h => h) (Or.inl ⟨by kernel_rfl, ?_⟩) (by assumption) ?_
              rotate_left
              · intro w hSw; (try dsimp only at hSw); go_simp; try with_reducible rfl
              simp only [Act.put, List.setIfInBounds_toArray, List.set_cons_zero, List.set_cons_succ]
              refine wpAnyH_take (i := 2) (oi := { dst := some 97, op := Go.Op.move (Go.Operand.tmp 9), type := 4, pos := "laws.go:349", after := #[{ on := 1, ground := Go.Ground.guard }], guard := some (1, true) }) (v := ?_) rfl (by kernel_rfl) (by kernel_rfl) (by kernel_rfl) (fun _ _ _ h => h) (Or.inl ⟨by kernel_rfl, ?_⟩) (by assumption) ?_
              rotate_left
              · intro w hSw; (try dsimp only at hSw); go_simp; try with_reducible rfl
              simp only [Act.put, List.setIfInBounds_toArray, List.set_cons_zero, List.set_cons_succ]
              refine wpAnyH_take (i := 3) (oi := { dst := some 98, op := Go.Op.pick (Go.Operand.tmp 96) (Go.Operand.tmp 97) (Go.Operand.const (Go.Value.bool false)), type := 4, pos := "laws.go:349", after := #[{ on := 1, ground := Go.Ground.data }, { on := 2, ground := Go.Ground.data }], guard := none }) (v := ?_) rfl (by kernel_rfl) (by kernel_rfl) (by kernel_rfl) (fun _ _ _ h => h) (Or.inl ⟨by kernel_rfl, ?_⟩) (by assumption) ?_
              rotate_left
              · intro w hSw; (try dsimp only at hSw); go_simp; try with_reducible rfl
              simp only [Act.put, List.setIfInBounds_toArray, List.set_cons_zero, List.set_cons_succ]
              refine wpAnyH_take (i := 4) (oi := { dst := some 99, op := Go.Op.move (Go.Operand.tmp 98), type := 4, pos := "laws.go:349", after := #[{ on := 3, ground := Go.Ground.data }, { on := 1, ground := Go.Ground.chain }], guard := none }) (v := ?_) rfl (by kernel_rfl) (by kernel_rfl) (by kernel_rfl) (fun _ _ _ h => h) (Or.inl ⟨by kernel_rfl, ?_⟩) (by assumption) ?_
              rotate_left
              · intro w hSw; (try dsimp only at hSw); go_simp; try with_reducible rfl
              simp only [Act.put, List.setIfInBounds_toArray, List.set_cons_zero, List.set_cons_succ]
              refine wpAnyH_take (i := 5) (oi := { dst := some 100, op := Go.Op.load 37 (Go.Operand.tmp 8), type := 37, pos := "laws.go:349", after := #[{ on := 4, ground := Go.Ground.guard }], guard := some (4, true) }) (v := ?_) rfl (by kernel_rfl) (by kernel_rfl) (by kernel_rfl) (fun _ _ _ h => h) (Or.inl ⟨by kernel_rfl, ?_⟩) (by assumption) ?_
              rotate_left
              · intro w hSw; (try dsimp only at hSw); go_simp; try with_reducible rfl
              simp only [Act.put, List.setIfInBounds_toArray, List.set_cons_zero, List.set_cons_succ]
              refine wpAnyH_take (i := 6) (oi := { dst := some 101, op := Go.Op.load 37 (Go.Operand.tmp 6), type := 37, pos := "laws.go:349", after := #[{ on := 4, ground := Go.Ground.guard }], guard := some (4, true) }) (v := ?_) rfl (by kernel_rfl) (by kernel_rfl) (by kernel_rfl) (fun _ _ _ h => h) (Or.inl ⟨by kernel_rfl, ?_⟩) (by assumption) ?_
              rotate_left
              · intro w hSw; (try dsimp only at hSw); go_simp; try with_reducible rfl
              simp only [Act.put, List.setIfInBounds_toArray, List.set_cons_zero, List.set_cons_succ]
              refine wpAnyH_ready (rs := [7]) (by kernel_rfl) (by simp) ?_
              refine AllReadyH.cons (o := { dst := some 102, op := Go.Op.call { callee := Go.Callee.value (Go.Operand.func 29), args := #[Go.Operand.tmp 100, Go.Operand.tmp 101], argTypes := #[37, 37] }, type := 4, pos := "laws.go:349", after := #[{ on := 5, ground := Go.Ground.data }, { on := 6, ground := Go.Ground.data }, { on := 4, ground := Go.Ground.chain }, { on := 4, ground := Go.Ground.guard }], guard := some (4, true) }) rfl (fun K hK => ?_) ?_
              · go_simp
                go_wp2_with (go_at_call 29; refine (sameGraph_any 0 P8 0 P6 s a8 a6 n6 c8 c6 KL _ HGR.out.drew.em HGR.out.drew.en HGR.out.lt.2.2 HGR.out.lt.2.1 HKN.out (by have := HN6.out; omega)).mono ?_; rintro e v1 ⟨rfl, C1⟩)
                have D1 : Hid (Below wr.heap.size wr v1) := ((Below.refl wr.heap.size wr).drew).trans C1.out
                have hk_v1 := HK17.out _ D1.out
                refine hK.out _ _ hk_v1 (fun hHeld => ?_)
                clear hK K
                try simp only [Act.put, List.setIfInBounds_toArray, List.set_cons_zero, List.set_cons_succ]
                refine wpAnyH_take (i := 8) (oi := { dst := some 103, op := Go.Op.pick (Go.Operand.tmp 99) (Go.Operand.tmp 102) (Go.Operand.const (Go.Value.bool false)), type := 4, pos := "laws.go:349", after := #[{ on := 4, ground := Go.Ground.data }, { on := 7, ground := Go.Ground.data }], guard := none }) (v := ?_) rfl (by kernel_rfl) (by kernel_rfl) (by kernel_rfl) (fun _ _ _ h => h) (Or.inl ⟨by kernel_rfl, ?_⟩) (by assumption) ?_
                rotate_left
                · intro w hSw; (try dsimp only at hSw); go_simp; try with_reducible rfl
                simp only [Act.put, List.setIfInBounds_toArray, List.set_cons_zero, List.set_cons_succ]
                refine wpAnyH_take (i := 9) (oi := { dst := some 104, op := Go.Op.move (Go.Operand.tmp 103), type := 4, pos := "laws.go:349", after := #[{ on := 8, ground := Go.Ground.data }, { on := 7, ground := Go.Ground.chain }], guard := none }) (v := ?_) rfl (by kernel_rfl) (by kernel_rfl) (by kernel_rfl) (fun _ _ _ h => h) (Or.inl ⟨by kernel_rfl, ?_⟩) (by assumption) ?_
                rotate_left
                · intro w hSw; (try dsimp only at hSw); go_simp; try with_reducible rfl
                simp only [Act.put, List.setIfInBounds_toArray, List.set_cons_zero, List.set_cons_succ]
                refine wpAnyH_take (i := 10) (oi := { dst := some 105, op := Go.Op.fieldAddr 37 (Go.Operand.tmp 6) 1, type := 0, pos := "laws.go:349", after := #[{ on := 9, ground := Go.Ground.guard }], guard := some (9, true) }) (v := ?_) rfl (by kernel_rfl) (by kernel_rfl) (by kernel_rfl) (fun _ _ _ h => h) (Or.inl ⟨by kernel_rfl, ?_⟩) (by assumption) ?_
                rotate_left
                · intro w hSw; (try dsimp only at hSw); go_simp; try with_reducible rfl
                simp only [Act.put, List.setIfInBounds_toArray, List.set_cons_zero, List.set_cons_succ]
                refine wpAnyH_take (i := 11) (oi := { dst := some 106, op := Go.Op.load 35 (Go.Operand.tmp 105), type := 35, pos := "laws.go:349", after := #[{ on := 10, ground := Go.Ground.data }, { on := 9, ground := Go.Ground.guard }], guard := some (9, true) }) (v := ?_) rfl (by kernel_rfl) (by kernel_rfl) (by kernel_rfl) (fun _ _ _ h => h) (Or.inl ⟨by kernel_rfl, ?_⟩) (by assumption) ?_
                rotate_left
                · intro w hSw; (try dsimp only at hSw); go_simp; try with_reducible rfl
                simp only [Act.put, List.setIfInBounds_toArray, List.set_cons_zero, List.set_cons_succ]
                refine wpAnyH_take (i := 12) (oi := { dst := some 107, op := Go.Op.call { callee := Go.Callee.builtin Go.Builtin.len, args := #[Go.Operand.tmp 106], argTypes := #[35] }, type := 3, pos := "laws.go:349", after := #[{ on := 11, ground := Go.Ground.data }, { on := 9, ground := Go.Ground.guard }], guard := some (9, true) }) (v := ?_) rfl (by kernel_rfl) (by kernel_rfl) (by kernel_rfl) (fun _ _ _ h => h) (Or.inl ⟨by kernel_rfl, ?_⟩) (by assumption) ?_
                rotate_left
                · intro w hSw; (try dsimp only at hSw); go_simp; try with_reducible rfl
                simp only [Act.put, List.setIfInBounds_toArray, List.set_cons_zero, List.set_cons_succ]
                refine wpAnyH_take (i := 13) (oi := { dst := some 108, op := Go.Op.move (Go.Operand.tmp 12), type := 3, pos := "laws.go:349", after := #[{ on := 9, ground := Go.Ground.guard }], guard := some (9, true) }) (v := ?_) rfl (by kernel_rfl) (by kernel_rfl) (by kernel_rfl) (fun _ _ _ h => h) (Or.inl ⟨by kernel_rfl, ?_⟩) (by assumption) ?_
                rotate_left
                · intro w hSw; (try dsimp only at hSw); go_simp; try with_reducible rfl
                simp only [Act.put, List.setIfInBounds_toArray, List.set_cons_zero, List.set_cons_succ]
                refine wpAnyH_take (i := 14) (oi := { dst := some 109, op := Go.Op.binOp Go.BinOp.eql 3 (Go.Operand.tmp 107) (Go.Operand.tmp 108) 3, type := 4, pos := "laws.go:349", after := #[{ on := 12, ground := Go.Ground.data }, { on := 13, ground := Go.Ground.data }, { on := 9, ground := Go.Ground.guard }], guard := some (9, true) }) (v := ?_) rfl (by kernel_rfl) (by kernel_rfl) (by kernel_rfl) (fun _ _ _ h => h) (Or.inl ⟨by kernel_rfl, ?_⟩) (by assumption) ?_
                rotate_left
                · intro w hSw; (try dsimp only at hSw); go_simp; try with_reducible rfl
                simp only [Act.put, List.setIfInBounds_toArray, List.set_cons_zero, List.set_cons_succ]
                refine wpAnyH_take (i := 15) (oi := { dst := some 110, op := Go.Op.pick (Go.Operand.tmp 104) (Go.Operand.tmp 109) (Go.Operand.const (Go.Value.bool false)), type := 4, pos := "laws.go:349", after := #[{ on := 9, ground := Go.Ground.data }, { on := 14, ground := Go.Ground.data }], guard := none }) (v := ?_) rfl (by kernel_rfl) (by kernel_rfl) (by kernel_rfl) (fun _ _ _ h => h) (Or.inl ⟨by kernel_rfl, ?_⟩) (by assumption) ?_
                rotate_left
                · intro w hSw; (try dsimp only at hSw); go_simp; try with_reducible rfl
                simp only [Act.put, List.setIfInBounds_toArray, List.set_cons_zero, List.set_cons_succ]
                refine wpAnyH_take (i := 16) (oi := { dst := some 111, op := Go.Op.move (Go.Operand.tmp 110), type := 4, pos := "laws.go:349", after := #[{ on := 15, ground := Go.Ground.data }, { on := 9, ground := Go.Ground.chain }], guard := none }) (v := ?_) rfl (by kernel_rfl) (by kernel_rfl) (by kernel_rfl) (fun _ _ _ h => h) (Or.inl ⟨by kernel_rfl, ?_⟩) (by assumption) ?_
                rotate_left
                · intro w hSw; (try dsimp only at hSw); go_simp; try with_reducible rfl
                simp only [Act.put, List.setIfInBounds_toArray, List.set_cons_zero, List.set_cons_succ]
                refine wpAnyH_take (i := 17) (oi := { dst := some 112, op := Go.Op.load 37 (Go.Operand.tmp 6), type := 37, pos := "laws.go:349", after := #[{ on := 16, ground := Go.Ground.guard }], guard := some (16, true) }) (v := ?_) rfl (by kernel_rfl) (by kernel_rfl) (by kernel_rfl) (fun _ _ _ h => h) (Or.inl ⟨by kernel_rfl, ?_⟩) (by assumption) ?_
                rotate_left
                · intro w hSw; (try dsimp only at hSw); go_simp; try with_reducible rfl
                simp only [Act.put, List.setIfInBounds_toArray, List.set_cons_zero, List.set_cons_succ]
                refine wpAnyH_take (i := 18) (oi := { dst := some 113, op := Go.Op.fieldAddr 42 (Go.Operand.tmp 5) 0, type := 0, pos := "laws.go:349", after := #[{ on := 16, ground := Go.Ground.guard }], guard := some (16, true) }) (v := ?_) rfl (by kernel_rfl) (by kernel_rfl) (by kernel_rfl) (fun _ _ _ h => h) (Or.inl ⟨by kernel_rfl, ?_⟩) (by assumption) ?_
                rotate_left
                · intro w hSw; (try dsimp only at hSw); go_simp; try with_reducible rfl
                simp only [Act.put, List.setIfInBounds_toArray, List.set_cons_zero, List.set_cons_succ]
                refine wpAnyH_take (i := 19) (oi := { dst := some 114, op := Go.Op.load 3 (Go.Operand.tmp 113), type := 3, pos := "laws.go:349", after := #[{ on := 18, ground := Go.Ground.data }, { on := 16, ground := Go.Ground.guard }], guard := some (16, true) }) (v := ?_) rfl (by kernel_rfl) (by kernel_rfl) (by kernel_rfl) (fun _ _ _ h => h) (Or.inl ⟨by kernel_rfl, ?_⟩) (by assumption) ?_
                rotate_left
                · intro w hSw; (try dsimp only at hSw); go_simp; try with_reducible rfl
                simp only [Act.put, List.setIfInBounds_toArray, List.set_cons_zero, List.set_cons_succ]
                refine wpAnyH_take (i := 20) (oi := { dst := some 115, op := Go.Op.fieldAddr 42 (Go.Operand.tmp 5) 1, type := 0, pos := "laws.go:349", after := #[{ on := 16, ground := Go.Ground.guard }], guard := some (16, true) }) (v := ?_) rfl (by kernel_rfl) (by kernel_rfl) (by kernel_rfl) (fun _ _ _ h => h) (Or.inl ⟨by kernel_rfl, ?_⟩) (by assumption) ?_
                rotate_left
                · intro w hSw; (try dsimp only at hSw); go_simp; try with_reducible rfl
                simp only [Act.put, List.setIfInBounds_toArray, List.set_cons_zero, List.set_cons_succ]
                refine wpAnyH_take (i := 21) (oi := { dst := some 116, op := Go.Op.load 5 (Go.Operand.tmp 115), type := 5, pos := "laws.go:349", after := #[{ on := 20, ground := Go.Ground.data }, { on := 16, ground := Go.Ground.guard }], guard := some (16, true) }) (v := ?_) rfl (by kernel_rfl) (by kernel_rfl) (by kernel_rfl) (fun _ _ _ h => h) (Or.inl ⟨by kernel_rfl, ?_⟩) (by assumption) ?_
                rotate_left
                · intro w hSw; (try dsimp only at hSw); go_simp; try with_reducible rfl
                simp only [Act.put, List.setIfInBounds_toArray, List.set_cons_zero, List.set_cons_succ]
                refine wpAnyH_take (i := 23) (oi := { dst := some 118, op := Go.Op.fieldAddr 42 (Go.Operand.tmp 5) 2, type := 0, pos := "laws.go:349", after := #[{ on := 16, ground := Go.Ground.guard }], guard := some (16, true) }) (v := ?_) rfl (by kernel_rfl) (by kernel_rfl) (by kernel_rfl) (fun _ _ _ h => h) (Or.inl ⟨by kernel_rfl, ?_⟩) (by assumption) ?_
                rotate_left
                · intro w hSw; (try dsimp only at hSw); go_simp; try with_reducible rfl
                simp only [Act.put, List.setIfInBounds_toArray, List.set_cons_zero, List.set_cons_succ]
                refine wpAnyH_take (i := 24) (oi := { dst := some 119, op := Go.Op.load 3 (Go.Operand.tmp 118), type := 3, pos := "laws.go:349", after := #[{ on := 23, ground := Go.Ground.data }, { on := 16, ground := Go.Ground.guard }], guard := some (16, true) }) (v := ?_) rfl (by kernel_rfl) (by kernel_rfl) (by kernel_rfl) (fun _ _ _ h => h) (Or.inl ⟨by kernel_rfl, ?_⟩) (by assumption) ?_
                rotate_left
                · intro w hSw; (try dsimp only at hSw); go_simp; try with_reducible rfl
                simp only [Act.put, List.setIfInBounds_toArray, List.set_cons_zero, List.set_cons_succ]
                refine wpAnyH_ready (rs := [22]) (by kernel_rfl) (by simp) ?_
                refine AllReadyH.cons (o := { dst := some 117, op := Go.Op.call { callee := Go.Callee.value (Go.Operand.func 28), args := #[Go.Operand.tmp 112, Go.Operand.tmp 114, Go.Operand.tmp 116], argTypes := #[37, 3, 5] }, type := 39, pos := "laws.go:349", after := #[{ on := 17, ground := Go.Ground.data }, { on := 19, ground := Go.Ground.data }, { on := 21, ground := Go.Ground.data }, { on := 16, ground := Go.Ground.chain }, { on := 16, ground := Go.Ground.guard }], guard := some (16, true) }) rfl (fun K hK => ?_) ?_
                · go_simp
                  go_wp2_with (go_at_call 28; refine (nextOf_any 0 P6 s a6 n6 c6 KL f lb v1 (HGR.out.below D1.out).en (HGR.out.below D1.out).lt.2.1 HKN.out (by have := HN6.out; omega)).mono ?_; rintro e v3 ⟨a3, n3, c3, rfl, HN3, HR3, C3⟩)
                  have D3 : Hid (Below wr.heap.size wr v3) := D1.out.trans (C3.out.mono D1.out.size)
                  have hk_v3 := HK17.out _ D3.out
                  refine hK.out _ _ hk_v3 (fun hHeld => ?_)
                  clear hK K
                  try simp only [Act.put, List.setIfInBounds_toArray, List.set_cons_zero, List.set_cons_succ]
                  refine wpAnyH_ready (rs := [25]) (by kernel_rfl) (by simp) ?_
                  refine AllReadyH.cons (o := { dst := some 120, op := Go.Op.call { callee := Go.Callee.value (Go.Operand.func 26), args := #[Go.Operand.tmp 117, Go.Operand.tmp 119], argTypes := #[39, 3] }, type := 4, pos := "laws.go:349", after := #[{ on := 22, ground := Go.Ground.data }, { on := 24, ground := Go.Ground.data }, { on := 22, ground := Go.Ground.chain }, { on := 16, ground := Go.Ground.guard }], guard := some (16, true) }) rfl (fun K hK => ?_) ?_
                  · go_simp
                    go_wp2_with (go_at_call 26; refine (in_any _ _ a3 n3 c3 (nextE KL f lb) tt v3 HR3.out.toIn HN3.out (by have := nextE_len KL f lb; have := HN3.out; have := HKN.out; have := HN6.out; omega) HME.out).mono ?_; rintro e v4 ⟨rfl, C4⟩)
                    have D4 : Hid (Below wr.heap.size wr v4) := D3.out.trans (C4.out.mono D3.out.size)
                    have hk_v4 := HK17.out _ D4.out
                    refine hK.out _ _ hk_v4 (fun hHeld => ?_)
                    clear hK K
                    try simp only [Act.put, List.setIfInBounds_toArray, List.set_cons_zero, List.set_cons_succ]
                    refine wpAnyH_take (i := 26) (oi := { dst := some 121, op := Go.Op.pick (Go.Operand.tmp 111) (Go.Operand.tmp 120) (Go.Operand.const (Go.Value.bool false)), type := 4, pos := "laws.go:349", after := #[{ on := 16, ground := Go.Ground.data }, { on := 25, ground := Go.Ground.data }], guard := none }) (v := ?_) rfl (by kernel_rfl) (by kernel_rfl) (by kernel_rfl) (fun _ _ _ h => h) (Or.inl ⟨by kernel_rfl, ?_⟩) (by assumption) ?_
                    rotate_left
                    · intro w hSw; (try dsimp only at hSw); go_simp; try with_reducible rfl
                    simp only [Act.put, List.setIfInBounds_toArray, List.set_cons_zero, List.set_cons_succ]
                    refine wpAnyH_take (i := 27) (oi := { dst := some 122, op := Go.Op.move (Go.Operand.tmp 121), type := 4, pos := "laws.go:349", after := #[{ on := 26, ground := Go.Ground.data }, { on := 25, ground := Go.Ground.chain }], guard := none }) (v := ?_) rfl (by kernel_rfl) (by kernel_rfl) (by kernel_rfl) (fun _ _ _ h => h) (Or.inl ⟨by kernel_rfl, ?_⟩) (by assumption) ?_
                    rotate_left
                    · intro w hSw; (try dsimp only at hSw); go_simp; try with_reducible rfl
                    simp only [Act.put, List.setIfInBounds_toArray, List.set_cons_zero, List.set_cons_succ]
                    refine wpAnyH_take (i := 28) (oi := { dst := some 123, op := Go.Op.load 37 (Go.Operand.tmp 6), type := 37, pos := "laws.go:349", after := #[{ on := 27, ground := Go.Ground.guard }], guard := some (27, true) }) (v := ?_) rfl (by kernel_rfl) (by kernel_rfl) (by kernel_rfl) (fun _ _ _ h => h) (Or.inl ⟨by kernel_rfl, ?_⟩) (by assumption) ?_
                    rotate_left
                    · intro w hSw; (try dsimp only at hSw); go_simp; try with_reducible rfl
                    simp only [Act.put, List.setIfInBounds_toArray, List.set_cons_zero, List.set_cons_succ]
                    refine wpAnyH_ready (rs := [29]) (by kernel_rfl) (by simp) ?_
                    refine AllReadyH.cons (o := { dst := some 124, op := Go.Op.call { callee := Go.Callee.value (Go.Operand.func 30), args := #[Go.Operand.tmp 123], argTypes := #[37] }, type := 4, pos := "laws.go:349", after := #[{ on := 28, ground := Go.Ground.data }, { on := 27, ground := Go.Ground.chain }, { on := 27, ground := Go.Ground.guard }], guard := some (27, true) }) rfl (fun K hK => ?_) ?_
                    · go_simp
                      go_wp2_with (go_at_call 30; refine (graphOk_any 0 P6 s a6 n6 c6 KL true v4 (HGR.out.below D4.out).en (HGR.out.below D4.out).lt.2.1 HKN.out (by have := HN6.out; omega) HKO.out.symm).mono ?_; rintro e v5 ⟨rfl, C5⟩)
                      have D5 : Hid (Below wr.heap.size wr v5) := D4.out.trans (C5.out.mono D4.out.size)
                      have hk_v5 := HK17.out _ D5.out
                      refine hK.out _ _ hk_v5 (fun hHeld => ?_)
                      clear hK K
                      try simp only [Act.put, List.setIfInBounds_toArray, List.set_cons_zero, List.set_cons_succ]
                      refine wpAnyH_take (i := 30) (oi := { dst := some 125, op := Go.Op.pick (Go.Operand.tmp 122) (Go.Operand.tmp 124) (Go.Operand.const (Go.Value.bool false)), type := 4, pos := "laws.go:349", after := #[{ on := 27, ground := Go.Ground.data }, { on := 29, ground := Go.Ground.data }], guard := none }) (v := ?_) rfl (by kernel_rfl) (by kernel_rfl) (by kernel_rfl) (fun _ _ _ h => h) (Or.inl ⟨by kernel_rfl, ?_⟩) (by assumption) ?_
                      rotate_left
                      · intro w hSw; (try dsimp only at hSw); go_simp; try with_reducible rfl
                      simp only [Act.put, List.setIfInBounds_toArray, List.set_cons_zero, List.set_cons_succ]
                      refine wpAnyH_take (i := 31) (oi := { dst := some 126, op := Go.Op.move (Go.Operand.tmp 125), type := 4, pos := "laws.go:349", after := #[{ on := 30, ground := Go.Ground.data }, { on := 29, ground := Go.Ground.chain }], guard := none }) (v := ?_) rfl (by kernel_rfl) (by kernel_rfl) (by kernel_rfl) (fun _ _ _ h => h) (Or.inl ⟨by kernel_rfl, ?_⟩) (by assumption) ?_
                      rotate_left
                      · intro w hSw; (try dsimp only at hSw); go_simp; try with_reducible rfl
                      simp only [Act.put, List.setIfInBounds_toArray, List.set_cons_zero, List.set_cons_succ]
                      refine wpAnyH_take (i := 32) (oi := { dst := some 127, op := Go.Op.load 42 (Go.Operand.tmp 5), type := 42, pos := "laws.go:349", after := #[{ on := 31, ground := Go.Ground.guard }], guard := some (31, true) }) (v := ?_) rfl (by kernel_rfl) (by kernel_rfl) (by kernel_rfl) (fun _ _ _ h => h) (Or.inl ⟨by kernel_rfl, ?_⟩) (by assumption) ?_
                      rotate_left
                      · intro w hSw; (try dsimp only at hSw); go_simp; try with_reducible rfl
                      simp only [Act.put, List.setIfInBounds_toArray, List.set_cons_zero, List.set_cons_succ]
                      refine wpAnyH_take (i := 33) (oi := { dst := some 128, op := Go.Op.fieldAddr 37 (Go.Operand.tmp 3) 1, type := 0, pos := "laws.go:349", after := #[{ on := 31, ground := Go.Ground.guard }], guard := some (31, true) }) (v := ?_) rfl (by kernel_rfl) (by kernel_rfl) (by kernel_rfl) (fun _ _ _ h => h) (Or.inl ⟨by kernel_rfl, ?_⟩) (by assumption) ?_
                      rotate_left
                      · intro w hSw; (try dsimp only at hSw); go_simp; try with_reducible rfl
                      simp only [Act.put, List.setIfInBounds_toArray, List.set_cons_zero, List.set_cons_succ]
                      refine wpAnyH_take (i := 34) (oi := { dst := some 129, op := Go.Op.load 35 (Go.Operand.tmp 128), type := 35, pos := "laws.go:349", after := #[{ on := 33, ground := Go.Ground.data }, { on := 31, ground := Go.Ground.guard }], guard := some (31, true) }) (v := ?_) rfl (by kernel_rfl) (by kernel_rfl) (by kernel_rfl) (fun _ _ _ h => h) (Or.inl ⟨by kernel_rfl, ?_⟩) (by assumption) ?_
                      rotate_left
                      · intro w hSw; (try dsimp only at hSw); go_simp; try with_reducible rfl
                      simp only [Act.put, List.setIfInBounds_toArray, List.set_cons_zero, List.set_cons_succ]
                      refine wpAnyH_take (i := 35) (oi := { dst := some 130, op := Go.Op.indexAddr 35 (Go.Operand.tmp 129) (Go.Operand.const (Go.Value.int Go.IntKind.i64 0)), type := 0, pos := "laws.go:349", after := #[{ on := 34, ground := Go.Ground.data }, { on := 31, ground := Go.Ground.guard }], guard := some (31, true) }) (v := ?_) rfl (by kernel_rfl) (by kernel_rfl) (by kernel_rfl) (fun _ _ _ h => h) (Or.inl ⟨by kernel_rfl, ?_⟩) (by assumption) ?_
                      rotate_left
                      · intro w hSw; (try dsimp only at hSw); go_simp; try with_reducible rfl
                      simp only [Act.put, List.setIfInBounds_toArray, List.set_cons_zero, List.set_cons_succ]
                      refine wpAnyH_take (i := 36) (oi := { dst := some 131, op := Go.Op.load 42 (Go.Operand.tmp 130), type := 42, pos := "laws.go:349", after := #[{ on := 35, ground := Go.Ground.data }, { on := 31, ground := Go.Ground.guard }], guard := some (31, true) }) (v := ?_) rfl (by kernel_rfl) (by kernel_rfl) (by kernel_rfl) (fun _ _ _ h => h) (Or.inl ⟨by kernel_rfl, ?_⟩) (by assumption) ?_
                      rotate_left
                      · intro w hSw; (try dsimp only at hSw); go_simp; try with_reducible rfl
                      simp only [Act.put, List.setIfInBounds_toArray, List.set_cons_zero, List.set_cons_succ]
                      refine wpAnyH_ready (rs := [37]) (by kernel_rfl) (by simp) ?_
                      refine AllReadyH.cons (o := { dst := some 132, op := Go.Op.call { callee := Go.Callee.value (Go.Operand.func 31), args := #[Go.Operand.tmp 127, Go.Operand.tmp 131], argTypes := #[42, 42] }, type := 4, pos := "laws.go:349", after := #[{ on := 32, ground := Go.Ground.data }, { on := 36, ground := Go.Ground.data }, { on := 31, ground := Go.Ground.chain }, { on := 31, ground := Go.Ground.guard }], guard := some (31, true) }) rfl (fun K hK => ?_) ?_
                      · go_simp
                        go_wp2_with (go_at_call 31; refine (edgeLess_any (f, lb, tt) (y0, y1, y2) false v5 HL1.out).mono ?_; rintro e v6 ⟨rfl, C6⟩)
                        have D6 : Hid (Below wr.heap.size wr v6) := D5.out.trans (C6.out.mono D5.out.size)
                        have hk_v6 := HK17.out _ D6.out
                        refine hK.out _ _ hk_v6 (fun hHeld => ?_)
                        clear hK K
                        try simp only [Act.put, List.setIfInBounds_toArray, List.set_cons_zero, List.set_cons_succ]
                        refine wpAnyH_take (i := 38) (oi := { dst := some 133, op := Go.Op.move (Go.Operand.tmp 132), type := 4, pos := "laws.go:349", after := #[{ on := 37, ground := Go.Ground.data }, { on := 37, ground := Go.Ground.chain }, { on := 31, ground := Go.Ground.guard }], guard := some (31, true) }) (v := ?_) rfl (by kernel_rfl) (by kernel_rfl) (by kernel_rfl) (fun _ _ _ h => h) (Or.inl ⟨by kernel_rfl, ?_⟩) (by assumption) ?_
                        rotate_left
                        · intro w hSw; (try dsimp only at hSw); go_simp; try with_reducible rfl
                        simp only [Act.put, List.setIfInBounds_toArray, List.set_cons_zero, List.set_cons_succ]
                        refine wpAnyH_take (i := 39) (oi := { dst := some 134, op := Go.Op.fieldAddr 37 (Go.Operand.tmp 3) 1, type := 0, pos := "laws.go:349", after := #[{ on := 38, ground := Go.Ground.guard }], guard := some (38, false) }) (v := ?_) rfl (by kernel_rfl) (by kernel_rfl) (by kernel_rfl) (fun _ _ _ h => h) (Or.inl ⟨by kernel_rfl, ?_⟩) (by assumption) ?_
                        rotate_left
                        · intro w hSw; (try dsimp only at hSw); go_simp; try with_reducible rfl
                        simp only [Act.put, List.setIfInBounds_toArray, List.set_cons_zero, List.set_cons_succ]
                        refine wpAnyH_take (i := 40) (oi := { dst := some 135, op := Go.Op.load 35 (Go.Operand.tmp 134), type := 35, pos := "laws.go:349", after := #[{ on := 39, ground := Go.Ground.data }, { on := 38, ground := Go.Ground.guard }], guard := some (38, false) }) (v := ?_) rfl (by kernel_rfl) (by kernel_rfl) (by kernel_rfl) (fun _ _ _ h => h) (Or.inl ⟨by kernel_rfl, ?_⟩) (by assumption) ?_
                        rotate_left
                        · intro w hSw; (try dsimp only at hSw); go_simp; try with_reducible rfl
                        simp only [Act.put, List.setIfInBounds_toArray, List.set_cons_zero, List.set_cons_succ]
                        refine wpAnyH_take (i := 41) (oi := { dst := some 136, op := Go.Op.indexAddr 35 (Go.Operand.tmp 135) (Go.Operand.const (Go.Value.int Go.IntKind.i64 0)), type := 0, pos := "laws.go:349", after := #[{ on := 40, ground := Go.Ground.data }, { on := 38, ground := Go.Ground.guard }], guard := some (38, false) }) (v := ?_) rfl (by kernel_rfl) (by kernel_rfl) (by kernel_rfl) (fun _ _ _ h => h) (Or.inl ⟨by kernel_rfl, ?_⟩) (by assumption) ?_
                        rotate_left
                        · intro w hSw; (try dsimp only at hSw); go_simp; try with_reducible rfl
                        simp only [Act.put, List.setIfInBounds_toArray, List.set_cons_zero, List.set_cons_succ]
                        refine wpAnyH_take (i := 42) (oi := { dst := some 137, op := Go.Op.load 42 (Go.Operand.tmp 136), type := 42, pos := "laws.go:349", after := #[{ on := 41, ground := Go.Ground.data }, { on := 38, ground := Go.Ground.guard }], guard := some (38, false) }) (v := ?_) rfl (by kernel_rfl) (by kernel_rfl) (by kernel_rfl) (fun _ _ _ h => h) (Or.inl ⟨by kernel_rfl, ?_⟩) (by assumption) ?_
                        rotate_left
                        · intro w hSw; (try dsimp only at hSw); go_simp; try with_reducible rfl
                        simp only [Act.put, List.setIfInBounds_toArray, List.set_cons_zero, List.set_cons_succ]
                        refine wpAnyH_take (i := 43) (oi := { dst := some 138, op := Go.Op.load 42 (Go.Operand.tmp 5), type := 42, pos := "laws.go:349", after := #[{ on := 38, ground := Go.Ground.guard }], guard := some (38, false) }) (v := ?_) rfl (by kernel_rfl) (by kernel_rfl) (by kernel_rfl) (fun _ _ _ h => h) (Or.inl ⟨by kernel_rfl, ?_⟩) (by assumption) ?_
                        rotate_left
                        · intro w hSw; (try dsimp only at hSw); go_simp; try with_reducible rfl
                        simp only [Act.put, List.setIfInBounds_toArray, List.set_cons_zero, List.set_cons_succ]
                        refine wpAnyH_ready (rs := [44]) (by kernel_rfl) (by simp) ?_
                        refine AllReadyH.cons (o := { dst := some 139, op := Go.Op.call { callee := Go.Callee.value (Go.Operand.func 31), args := #[Go.Operand.tmp 137, Go.Operand.tmp 138], argTypes := #[42, 42] }, type := 4, pos := "laws.go:349", after := #[{ on := 42, ground := Go.Ground.data }, { on := 43, ground := Go.Ground.data }, { on := 38, ground := Go.Ground.chain }, { on := 38, ground := Go.Ground.guard }], guard := some (38, false) }) rfl (fun K hK => ?_) ?_
                        · go_simp
                          go_wp2_with (go_at_call 31; refine (edgeLess_any (y0, y1, y2) (f, lb, tt) true v6 HL2.out).mono ?_; rintro e v7 ⟨rfl, C7⟩)
                          have D7 : Hid (Below wr.heap.size wr v7) := D6.out.trans (C7.out.mono D6.out.size)
                          have hk_v7 := HK17.out _ D7.out
                          refine hK.out _ _ hk_v7 (fun hHeld => ?_)
                          clear hK K
                          try simp only [Act.put, List.setIfInBounds_toArray, List.set_cons_zero, List.set_cons_succ]
                          refine wpAnyH_take (i := 45) (oi := { dst := some 140, op := Go.Op.pick (Go.Operand.tmp 133) (Go.Operand.const (Go.Value.bool true)) (Go.Operand.tmp 139), type := 4, pos := "laws.go:349", after := #[{ on := 38, ground := Go.Ground.data }, { on := 44, ground := Go.Ground.data }, { on := 31, ground := Go.Ground.guard }], guard := some (31, true) }) (v := ?_) rfl (by kernel_rfl) (by kernel_rfl) (by kernel_rfl) (fun _ _ _ h => h) (Or.inl ⟨by kernel_rfl, ?_⟩) (by assumption) ?_
                          rotate_left
                          · intro w hSw; (try dsimp only at hSw); go_simp; try with_reducible rfl
                          simp only [Act.put, List.setIfInBounds_toArray, List.set_cons_zero, List.set_cons_succ]
                          refine wpAnyH_take (i := 46) (oi := { dst := some 141, op := Go.Op.move (Go.Operand.tmp 140), type := 4, pos := "laws.go:349", after := #[{ on := 45, ground := Go.Ground.data }, { on := 44, ground := Go.Ground.chain }, { on := 31, ground := Go.Ground.guard }], guard := some (31, true) }) (v := ?_) rfl (by kernel_rfl) (by kernel_rfl) (by kernel_rfl) (fun _ _ _ h => h) (Or.inl ⟨by kernel_rfl, ?_⟩) (by assumption) ?_
                          rotate_left
                          · intro w hSw; (try dsimp only at hSw); go_simp; try with_reducible rfl
                          simp only [Act.put, List.setIfInBounds_toArray, List.set_cons_zero, List.set_cons_succ]
                          refine wpAnyH_take (i := 47) (oi := { dst := some 142, op := Go.Op.load 42 (Go.Operand.tmp 5), type := 42, pos := "laws.go:349", after := #[{ on := 46, ground := Go.Ground.guard }], guard := some (46, false) }) (v := undef) rfl (by kernel_rfl) (by kernel_rfl) (by kernel_rfl) (fun _ _ _ h => h) (Or.inr ⟨by kernel_rfl, rfl⟩) (by assumption) ?_
                          simp only [Act.put, List.setIfInBounds_toArray, List.set_cons_zero, List.set_cons_succ]
                          refine wpAnyH_take (i := 48) (oi := { dst := some 143, op := Go.Op.fieldAddr 37 (Go.Operand.tmp 3) 1, type := 0, pos := "laws.go:349", after := #[{ on := 46, ground := Go.Ground.guard }], guard := some (46, false) }) (v := undef) rfl (by kernel_rfl) (by kernel_rfl) (by kernel_rfl) (fun _ _ _ h => h) (Or.inr ⟨by kernel_rfl, rfl⟩) (by assumption) ?_
                          simp only [Act.put, List.setIfInBounds_toArray, List.set_cons_zero, List.set_cons_succ]
                          refine wpAnyH_take (i := 49) (oi := { dst := some 144, op := Go.Op.load 35 (Go.Operand.tmp 143), type := 35, pos := "laws.go:349", after := #[{ on := 48, ground := Go.Ground.data }, { on := 46, ground := Go.Ground.guard }], guard := some (46, false) }) (v := undef) rfl (by kernel_rfl) (by kernel_rfl) (by kernel_rfl) (fun _ _ _ h => h) (Or.inr ⟨by kernel_rfl, rfl⟩) (by assumption) ?_
                          simp only [Act.put, List.setIfInBounds_toArray, List.set_cons_zero, List.set_cons_succ]
                          refine wpAnyH_take (i := 50) (oi := { dst := some 145, op := Go.Op.indexAddr 35 (Go.Operand.tmp 144) (Go.Operand.const (Go.Value.int Go.IntKind.i64 0)), type := 0, pos := "laws.go:349", after := #[{ on := 49, ground := Go.Ground.data }, { on := 46, ground := Go.Ground.guard }], guard := some (46, false) }) (v := undef) rfl (by kernel_rfl) (by kernel_rfl) (by kernel_rfl) (fun _ _ _ h => h) (Or.inr ⟨by kernel_rfl, rfl⟩) (by assumption) ?_
                          simp only [Act.put, List.setIfInBounds_toArray, List.set_cons_zero, List.set_cons_succ]
                          refine wpAnyH_take (i := 51) (oi := { dst := some 146, op := Go.Op.load 42 (Go.Operand.tmp 145), type := 42, pos := "laws.go:349", after := #[{ on := 50, ground := Go.Ground.data }, { on := 46, ground := Go.Ground.guard }], guard := some (46, false) }) (v := undef) rfl (by kernel_rfl) (by kernel_rfl) (by kernel_rfl) (fun _ _ _ h => h) (Or.inr ⟨by kernel_rfl, rfl⟩) (by assumption) ?_
                          simp only [Act.put, List.setIfInBounds_toArray, List.set_cons_zero, List.set_cons_succ]
                          refine wpAnyH_take (i := 52) (oi := { dst := some 147, op := Go.Op.binOp Go.BinOp.eql 42 (Go.Operand.tmp 142) (Go.Operand.tmp 146) 42, type := 4, pos := "laws.go:349", after := #[{ on := 47, ground := Go.Ground.data }, { on := 51, ground := Go.Ground.data }, { on := 46, ground := Go.Ground.guard }], guard := some (46, false) }) (v := undef) rfl (by kernel_rfl) (by kernel_rfl) (by kernel_rfl) (fun _ _ _ h => h) (Or.inr ⟨by kernel_rfl, rfl⟩) (by assumption) ?_
                          simp only [Act.put, List.setIfInBounds_toArray, List.set_cons_zero, List.set_cons_succ]
                          refine wpAnyH_take (i := 53) (oi := { dst := some 148, op := Go.Op.pick (Go.Operand.tmp 141) (Go.Operand.const (Go.Value.bool true)) (Go.Operand.tmp 147), type := 4, pos := "laws.go:349", after := #[{ on := 46, ground := Go.Ground.data }, { on := 52, ground := Go.Ground.data }, { on := 31, ground := Go.Ground.guard }], guard := some (31, true) }) (v := ?_) rfl (by kernel_rfl) (by kernel_rfl) (by kernel_rfl) (fun _ _ _ h => h) (Or.inl ⟨by kernel_rfl, ?_⟩) (by assumption) ?_
                          rotate_left
                          · intro w hSw; (try dsimp only at hSw); go_simp; try with_reducible rfl
                          simp only [Act.put, List.setIfInBounds_toArray, List.set_cons_zero, List.set_cons_succ]
                          refine wpAnyH_take (i := 54) (oi := { dst := some 149, op := Go.Op.pick (Go.Operand.tmp 126) (Go.Operand.tmp 148) (Go.Operand.const (Go.Value.bool false)), type := 4, pos := "laws.go:349", after := #[{ on := 31, ground := Go.Ground.data }, { on := 53, ground := Go.Ground.data }], guard := none }) (v := ?_) rfl (by kernel_rfl) (by kernel_rfl) (by kernel_rfl) (fun _ _ _ h => h) (Or.inl ⟨by kernel_rfl, ?_⟩) (by assumption) ?_
                          rotate_left
                          · intro w hSw; (try dsimp only at hSw); go_simp; try with_reducible rfl
                          simp only [Act.put, List.setIfInBounds_toArray, List.set_cons_zero, List.set_cons_succ]
                          refine wpAnyH_take (i := 55) (oi := { dst := some 2, op := Go.Op.assign (Go.Operand.tmp 149), type := 4, pos := "laws.go:349", after := #[{ on := 54, ground := Go.Ground.data }, { on := 46, ground := Go.Ground.chain }, { on := 0, ground := Go.Ground.phase }, { on := 1, ground := Go.Ground.phase }, { on := 2, ground := Go.Ground.phase }, { on := 3, ground := Go.Ground.phase }, { on := 4, ground := Go.Ground.phase }, { on := 5, ground := Go.Ground.phase }, { on := 6, ground := Go.Ground.phase }, { on := 7, ground := Go.Ground.phase }, { on := 8, ground := Go.Ground.phase }, { on := 9, ground := Go.Ground.phase }, { on := 10, ground := Go.Ground.phase }, { on := 11, ground := Go.Ground.phase }, { on := 12, ground := Go.Ground.phase }, { on := 13, ground := Go.Ground.phase }, { on := 14, ground := Go.Ground.phase }, { on := 15, ground := Go.Ground.phase }, { on := 16, ground := Go.Ground.phase }, { on := 17, ground := Go.Ground.phase }, { on := 18, ground := Go.Ground.phase }, { on := 19, ground := Go.Ground.phase }, { on := 20, ground := Go.Ground.phase }, { on := 21, ground := Go.Ground.phase }, { on := 22, ground := Go.Ground.phase }, { on := 23, ground := Go.Ground.phase }, { on := 24, ground := Go.Ground.phase }, { on := 25, ground := Go.Ground.phase }, { on := 26, ground := Go.Ground.phase }, { on := 27, ground := Go.Ground.phase }, { on := 28, ground := Go.Ground.phase }, { on := 29, ground := Go.Ground.phase }, { on := 30, ground := Go.Ground.phase }, { on := 31, ground := Go.Ground.phase }, { on := 32, ground := Go.Ground.phase }, { on := 33, ground := Go.Ground.phase }, { on := 34, ground := Go.Ground.phase }, { on := 35, ground := Go.Ground.phase }, { on := 36, ground := Go.Ground.phase }, { on := 37, ground := Go.Ground.phase }, { on := 38, ground := Go.Ground.phase }, { on := 39, ground := Go.Ground.phase }, { on := 40, ground := Go.Ground.phase }, { on := 41, ground := Go.Ground.phase }, { on := 42, ground := Go.Ground.phase }, { on := 43, ground := Go.Ground.phase }, { on := 44, ground := Go.Ground.phase }, { on := 45, ground := Go.Ground.phase }, { on := 46, ground := Go.Ground.phase }, { on := 47, ground := Go.Ground.phase }, { on := 48, ground := Go.Ground.phase }, { on := 49, ground := Go.Ground.phase }, { on := 50, ground := Go.Ground.phase }, { on := 51, ground := Go.Ground.phase }, { on := 52, ground := Go.Ground.phase }, { on := 53, ground := Go.Ground.phase }, { on := 54, ground := Go.Ground.phase }], guard := none }) (v := ?_) rfl (by kernel_rfl) (by kernel_rfl) (by kernel_rfl) (fun _ _ _ h => h) (Or.inl ⟨by kernel_rfl, ?_⟩) (by assumption) ?_
                          rotate_left
                          · intro w hSw; (try dsimp only at hSw); go_simp; try with_reducible rfl
                          simp only [Act.put, List.setIfInBounds_toArray, List.set_cons_zero, List.set_cons_succ]
                          refine wpAnyH_done (by kernel_rfl) ?_ _
                          clear hHeld
                          go_wp2
                          go_ret
                          exact ⟨rfl, HGR.out.hold.bel.trans (D7.out.mono HGR.out.hold.bel.size)⟩
                        exact AllReadyH.nil
                      exact AllReadyH.nil
                    exact AllReadyH.nil
                  exact AllReadyH.nil
                exact AllReadyH.nil
              exact AllReadyH.nil
end Go.Proofs.Ytelikebpddhncaa
