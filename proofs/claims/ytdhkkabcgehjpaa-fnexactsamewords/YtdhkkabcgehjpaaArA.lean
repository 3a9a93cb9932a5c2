/-
  Arcs as edges: in, held against one another, marked, held; out of their reading.
-/
import Derived.Test.YtdhkkabcgehjpaaEdC
namespace Go.Proofs.Ytdhkkabcgehjpaa
open Go.RowKit

set_option maxHeartbeats 1000000 in
theorem toArc_any (x : Ed) (w : World) : Calls Try.prog 60 #[ev x] w fun e w' => e = .returned (ev x) ∧ Hid (Below w.heap.size w w') := by
  obtain ⟨x0, x1, x2⟩ := x
  go_enter Try.func60, Try.ntmps60
  go_wp2
  generalize hW : World.alloc _ _ = W6
  have HB : Hid (Below w.heap.size w W6) := by
    show Below _ _ _
    rw [← hW]
    exact below3 w _ _ _
  have hk : Blk W6 (w.heap.size + 1) 3 (fun i => if i = 0 then .int .i64 x0 else if i = 1 then .int .u8 x1 else .int .i64 x2) := by
    rw [← hW]
    exact (blk_three (w.alloc _) (w.heap.size + 1) (by simp) _ _ _ _).alloc _
  have c0 : W6.cell? ⟨w.heap.size + 1, 0, none⟩ = some (.int .i64 x0) := hk.cell (i := 0) (by omega)
  have c1 : W6.cell? ⟨w.heap.size + 1, 1, none⟩ = some (.int .u8 x1) := hk.cell (i := 1) (by omega)
  have c2 : W6.cell? ⟨w.heap.size + 1, 2, none⟩ = some (.int .i64 x2) := hk.cell (i := 2) (by omega)
  clear hW hk
  refine bodyPost_ret (v := .agg #[.int .i64 x0, .int .u8 x1, .int .i64 x2]) (by simp [results, Try.results60, go_sem, c0, c1, c2]) rfl ?_
  exact ⟨rfl, HB⟩

theorem Try.info58 : (Try.prog.info? 58).map (fun i => (i.zero, i.size, i.bytes)) = some (some (.agg #[.int .i64 0, .int .u8 0, .int .i64 0]), 3, 24) := by kernel_rfl

set_option maxHeartbeats 400000 in
theorem szArcs_yes (a : Option Addr) (n cap L : Nat) (w : World) (hm : n ≤ 9223372036854775807) (hL : L ≤ 1048576) (h : n ≤ L) :
    Calls Try.prog 27 #[.slice a n cap, .int .i64 (L : Int)] w fun e w' => e = .returned (.int .i64 ((L - n : Nat) : Int)) ∧ w = w' := by
  have hn : ¬ (L : Int) - (n : Int) < 0 := by omega
  have he : (L : Int) - (n : Int) = ((L - n : Nat) : Int) := by omega
  go_enter Try.func27, Try.ntmps27
  go_wp2
  go_ret
  exact ⟨by first | rfl | rw [he]; rfl, rfl⟩
set_option maxHeartbeats 400000 in
theorem szArcs_no (a : Option Addr) (n cap L : Nat) (w : World) (hm : n ≤ 9223372036854775807) (hL : L ≤ 1048576) (h : L < n) :
    Calls Try.prog 27 #[.slice a n cap, .int .i64 (L : Int)] w fun e w' => e = .returned (.int .i64 (-1)) ∧ w = w' := by
  have hn : (L : Int) - (n : Int) < 0 := by omega
  go_enter Try.func27, Try.ntmps27
  go_wp2
  go_ret
  exact ⟨rfl, rfl⟩
set_option maxHeartbeats 1000000 in
set_option maxRecDepth 100000 in
theorem toArcs_any (lo hi : Nat) (a : Option Addr) (n cap : Nat) (l : List Ed) (w : World) (ha : EdgesIn lo hi w a l) (hh : hi ≤ w.heap.size) (hn : l.length = n) (hm : n ≤ 1048576) :
    Calls Try.prog 30 #[.slice a n cap] w fun e w' => ∃ g : Nat, e = .returned (.slice (some ⟨g, 0, none⟩) n n) ∧ Hid (EdgesOwn w.heap.size w'.heap.size w' (some ⟨g, 0, none⟩) l) ∧ Hid (Below w.heap.size w w') := by
  have HN : Hid (l.length = n) := hn
  have HA : Hid (EdgesIn lo hi w a l) := ha
  have HH : Hid (hi ≤ w.heap.size) := hh
  obtain ⟨i0, hi0, hz0, hz1, hz2⟩ := info_parts Try.info58
  have hmk := Go.run_make (P := Try.prog) w 28 58 i0 _ Try.underlying28 hi0 hz0 .i64 .i64 (n : Int) (n : Int) (by omega) (by omega) (by rw [hz2]; omega) (by omega)
  rw [hz1] at hmk
  obtain ⟨cs, hcs⟩ : ∃ cs, cs = madeCells (Value.agg #[.int .i64 0, .int .u8 0, .int .i64 0]).cells ((n : Int).toNat * 3) := ⟨_, rfl⟩
  rw [← hcs, Int.toNat_natCast] at hmk
  have HZ : Hid (cs = madeCells (Value.agg #[.int .i64 0, .int .u8 0, .int .i64 0]).cells (n * 3)) := by show _ = _; rw [hcs, Int.toNat_natCast]
  clear ha hn hh hcs hi0 hz0 hz1 hz2
  go_enter Try.func30, Try.ntmps30
  go_wp2
  go_loopw [4] (fun i wr => ∃ k : Nat, i = .int .i64 k ∧ k ≤ n ∧ Hid (∃ L : List Ed, L.length = n ∧ EBlk wr w.heap.size L ∧ ∀ j, j < k → eat L j = eat l j) ∧ Hid (Below w.heap.size w wr) ∧ Hid (w.heap.size < wr.heap.size)) (fun i _ => n - (intOf i).toNat)
  case atStart =>
    refine ⟨0, rfl, by omega, ⟨List.replicate n (0, 0, 0), by simp, ?_, fun j hj => absurd hj (by omega)⟩, (Below.refl _ _).alloc (Nat.le_refl _) _, by show _ < _; simp⟩
    have hs : cs.size = n * 3 := by rw [HZ.out, size_madeCells]
    have := blk_new w cs 58 (ef (List.replicate n (0, 0, 0))) (fun i hi => by rw [HZ.out]; exact madeE n i (by omega))
    unfold EBlk
    rw [List.length_replicate, ← hs]
    exact this
  case round =>
    obtain ⟨k, rfl, hk, HP, HL, HS⟩ := hrel
    by_cases hlt : k < n
    · have hlt1 : (k : Int) < (n : Int) := by omega
      obtain ⟨b, o, rfl, h1, h2, hc0, hc1, hc2⟩ := (HA.out.below HL.out HH.out).edge (k := k) (by rw [HN.out]; exact hlt)
      obtain ⟨x, HX⟩ : ∃ x : Ed, Hid (x = eat l k) := ⟨_, rfl⟩
      rw [← HX.out] at hc0 hc1 hc2
      obtain ⟨x0, x1, x2⟩ := x
      dsimp only at hc0 hc1 hc2
      clear h1 h2
      go_wp2_with fail
      refine (toArc_any (x0, x1, x2) wr).mono ?_
      rintro e w1 ⟨rfl, B1⟩
      have HS1 : Hid (wr.heap.size ≤ w1.heap.size) := B1.out.size
      have HB1 : Hid (Below w.heap.size w w1) := HL.out.trans (B1.out.mono HL.out.size)
      obtain ⟨L, hL, hblk0, hall⟩ := HP.out
      have hblk : EBlk w1 w.heap.size L := Blk.of_block hblk0 (B1.out.block _ HS.out)
      have HBK : Hid (EBlk w1 w.heap.size L) := hblk
      have HALL : Hid (∀ j, j < k → eat L j = eat l j) := hall
      have HLL : Hid (L.length = n) := hL
      have hd0 := Blk.cell hblk (i := k * 3) (by omega)
      have hd1 := Blk.cell hblk (i := k * 3 + 1) (by omega)
      have hd2 := Blk.cell hblk (i := k * 3 + 2) (by omega)
      have hf0 := Blk.frozen hblk (k * 3)
      have hf1 := Blk.frozen hblk (k * 3 + 1)
      have hf2 := Blk.frozen hblk (k * 3 + 2)
      clear hblk hblk0 hall hL hc0 hc1 hc2 B1
      go_wp2
      go_roundw
      case rel =>
        have hst := HBK.out.put (k := k) (by rw [HLL.out]; exact hlt) (x0, x1, x2)
        refine ⟨k + 1, by go_num, by omega, ⟨L.set k (x0, x1, x2), by rw [List.length_set]; exact HLL.out, by simpa using hst, fun j hj => ?_⟩, ?_, ?_⟩
        · rw [eat_set (by rw [HLL.out]; exact hlt)]
          by_cases e : j = k
          · subst e; rw [if_pos rfl]; exact HX.out
          · rw [if_neg e]; exact HALL.out j (by omega)
        · exact set_above (set_above (set_above HB1.out (Nat.le_refl _) _) (Nat.le_refl _) _) (Nat.le_refl _) _
        · have := HS.out; have := HS1.out; show _ < _; simp; omega
      case measure => simp [intOf]; omega
    · obtain rfl : k = n := by omega
      go_wp2
      go_ret
      obtain ⟨L, hL, hblk, hall⟩ := HP.out
      have : L = l := eat_ext (by rw [hL, HN.out]) (fun i hi => hall i (by rw [← hL]; exact hi))
      subst this
      exact ⟨w.heap.size, rfl, .inr ⟨_, rfl, Nat.le_refl _, HS.out, hblk⟩, HL.out⟩
set_option maxHeartbeats 1000000 in
theorem eqArc_any (x y : Ed) (r : Bool) (w : World) (hr : r = decide (x = y)) : Calls Try.prog 63 #[ev x, ev y] w fun e w' => e = .returned (.bool r) ∧ Hid (Below w.heap.size w w') := by
  obtain ⟨x0, x1, x2⟩ := x
  obtain ⟨y0, y1, y2⟩ := y
  have HR : Hid (r = decide (x0 = y0 ∧ x1 = y1 ∧ x2 = y2)) := by show _ = _; rw [hr]; simp
  clear hr
  by_cases h0 : x0 = y0
  · subst h0
    by_cases h1 : x1 = y1
    · subst h1
      by_cases h2 : x2 = y2
      · subst h2
        obtain rfl : r = true := by rw [HR.out]; simp
        go_enter Try.func63, Try.ntmps63
        go_wp2
        go_ret
        exact ⟨rfl, below2 w _ _⟩
      · have hn : decide (x2 = y2) = false := decide_eq_false h2
        obtain rfl : r = false := by rw [HR.out]; simp [h2]
        go_enter Try.func63, Try.ntmps63
        go_wp2
        go_ret
        exact ⟨rfl, below2 w _ _⟩
    · have hn : decide (x1 = y1) = false := decide_eq_false h1
      obtain rfl : r = false := by rw [HR.out]; simp [h1]
      go_enter Try.func63, Try.ntmps63
      go_wp2
      go_ret
      exact ⟨rfl, below2 w _ _⟩
  · have hn : decide (x0 = y0) = false := decide_eq_false h0
    obtain rfl : r = false := by rw [HR.out]; simp [h0]
    go_enter Try.func63, Try.ntmps63
    go_wp2
    go_ret
    exact ⟨rfl, below2 w _ _⟩

set_option maxHeartbeats 2000000 in
set_option maxRecDepth 100000 in
theorem eqArcs_any (lo hi lo' hi' : Nat) (a a' : Option Addr) (n n' cap cap' : Nat) (l l' : List Ed) (r : Bool) (w : World) (ha : EdgesIn lo hi w a l) (hb : EdgesIn lo' hi' w a' l') (hh : hi ≤ w.heap.size) (hh' : hi' ≤ w.heap.size) (hn : l.length = n) (hn' : l'.length = n') (hm : n ≤ 1048576) (hr : r = decide (l = l')) :
    Calls Try.prog 37 #[.slice a n cap, .slice a' n' cap'] w fun e w' => e = .returned (.bool r) ∧ Hid (Below w.heap.size w w') := by
  have HN : Hid (l.length = n) := hn
  have HN' : Hid (l'.length = n') := hn'
  have HA : Hid (EdgesIn lo hi w a l) := ha
  have HA' : Hid (EdgesIn lo' hi' w a' l') := hb
  have HH : Hid (hi ≤ w.heap.size ∧ hi' ≤ w.heap.size) := ⟨hh, hh'⟩
  have HR : Hid (r = decide (l = l')) := hr
  clear ha hb hh hh' hn hn' hr
  by_cases he : n = n'
  · subst he
    go_enter Try.func37, Try.ntmps37
    go_wp2
    go_loopw [5] (fun i wr => ∃ k : Nat, i = .int .i64 k ∧ k ≤ n ∧ Hid (l = l' ↔ l.drop k = l'.drop k) ∧ Hid (Below w.heap.size w wr)) (fun i _ => n - (intOf i).toNat)
    case atStart => exact ⟨0, rfl, by omega, by show _ ↔ _; simp, Below.refl _ _⟩
    case round =>
      obtain ⟨k, rfl, hk, HE, HL⟩ := hrel
      by_cases hlt : k < n
      · have hlt1 : (k : Int) < (n : Int) := by omega
        have hlt0 : 0 ≤ (k : Int) := by omega
        obtain ⟨b, o, rfl, _, _, hx⟩ := (HA.out.below HL.out HH.out.1).edge (k := k) (by rw [HN.out]; exact hlt)
        obtain ⟨b', o', rfl, _, _, hy⟩ := (HA'.out.below HL.out HH.out.2).edge (k := k) (by rw [HN'.out]; exact hlt)
        obtain ⟨x, HX⟩ : ∃ x : Ed, Hid (x = eat l k) := ⟨_, rfl⟩
        obtain ⟨y, HY⟩ : ∃ x : Ed, Hid (x = eat l' k) := ⟨_, rfl⟩
        rw [← HX.out] at hx
        rw [← HY.out] at hy
        have HEX : Hid (EdgeAt wr b (o + k * 3) x) := hx
        have HEY : Hid (EdgeAt wr b' (o' + k * 3) y) := hy
        obtain ⟨q, HQ⟩ : ∃ q : Bool, Hid (q = decide (x = y)) := ⟨_, rfl⟩
        have HD : Hid ((l = l') ↔ (x = y ∧ l.drop (k + 1) = l'.drop (k + 1))) := HE.out.trans (by rw [HX.out, HY.out]; exact drop_of_getD HN.out HN'.out hlt)
        have HCQ := HQ
        obtain ⟨x0, x1, x2⟩ := x
        obtain ⟨y0, y1, y2⟩ := y
        obtain ⟨p0, p1, p2⟩ := hx
        obtain ⟨q0, q1, q2⟩ := hy
        dsimp only at p0 p1 p2 q0 q1 q2
        have HC : Hid (∀ w0, Below wr.heap.size wr w0 → Calls Try.prog 63 #[ev (x0, x1, x2), ev (y0, y1, y2)] w0 fun e w' => e = .returned (.bool q) ∧ Hid (Below wr.heap.size wr w') ∧ (EdgeAt w' b (o + k * 3) (x0, x1, x2) ∧ EdgeAt w' b' (o' + k * 3) (y0, y1, y2))) := fun w0 h =>
          (eqArc_any _ _ q w0 HCQ.out).mono fun _ _ ⟨h1, h2⟩ =>
            have hk := h.trans (h2.out.mono h.size)
            ⟨h1, hk, below_edge HEX.out hk, below_edge HEY.out hk⟩
        clear HCQ
        go_wp2_with fail
        go_region_held3 (fun w' => (w'.cell? ⟨b, o + k * 3, none⟩ = some (.int .i64 x0) ∧ w'.cell? ⟨b, o + k * 3 + 1, none⟩ = some (.int .u8 x1) ∧ w'.cell? ⟨b, o + k * 3 + 2, none⟩ = some (.int .i64 x2)) ∧ (w'.cell? ⟨b', o' + k * 3, none⟩ = some (.int .i64 y0) ∧ w'.cell? ⟨b', o' + k * 3 + 1, none⟩ = some (.int .u8 y1) ∧ w'.cell? ⟨b', o' + k * 3 + 2, none⟩ = some (.int .i64 y2))) (first | exact ⟨⟨p0, p1, p2⟩, ⟨q0, q1, q2⟩⟩ | exact hk1) (first | (go_at_call 63; refine (HC.out _ ((Below.refl _ _).drew)).mono ?_; rintro e w1 ⟨rfl, HB1, hk1⟩))
        have HL1 : Hid (Below w.heap.size w w1) := HL.out.trans (HB1.out.mono HL.out.size)
        rcases Bool.eq_false_or_eq_true q with hq | hq
        · subst hq
          go_wp2
          go_roundw
          case rel =>
            have e : (x0, x1, x2) = ((y0, y1, y2) : Ed) := of_decide_eq_true HQ.out.symm
            exact ⟨k + 1, by go_num, by omega, HD.out.trans ⟨fun h => h.2, fun h => ⟨e, h⟩⟩, HL1⟩
          case measure => simp [intOf]; omega
        · subst hq
          go_wp2
          go_ret
          have e : ¬ (x0, x1, x2) = ((y0, y1, y2) : Ed) := of_decide_eq_false HQ.out.symm
          refine ⟨?_, HL1⟩
          have : r = false := by rw [HR.out]; exact decide_eq_false fun h => e (HD.out.1 h).1
          rw [this]; rfl
      · go_wp2
        go_ret
        refine ⟨?_, HL⟩
        have : r = true := by
          rw [HR.out]
          refine decide_eq_true (HE.out.2 ?_)
          rw [List.drop_of_length_le (by rw [HN.out]; omega), List.drop_of_length_le (by rw [HN'.out]; omega)]
        rw [this]; rfl
  · have hne : decide ((n : Int) = (n' : Int)) = false := by simp; omega
    have hr : r = false := by rw [HR.out]; exact decide_eq_false fun h => he (by rw [← HN.out, h, HN'.out])
    subst hr
    go_enter Try.func37, Try.ntmps37
    go_wp2
    go_ret
    exact ⟨rfl, Below.refl _ _⟩

set_option maxHeartbeats 2000000 in
set_option maxRecDepth 100000 in
theorem markArcs_any (lo hi : Nat) (a : Option Addr) (n cap K : Nat) (l : List Ed) (w : World) (ha : EdgesOwn lo hi w a l) (hn : l.length = n) (hm : n ≤ 1048576) (hK : K ≤ 1099511627776) :
    Calls Try.prog 48 #[.slice a n cap, .int .i64 (K : Int)] w fun e w' => e = .returned (.int .i64 ((K + n * 3 : Nat) : Int)) ∧ Hid (EdgesOwn lo hi w' a (marksE K n)) ∧ Hid (KeptP (fun c => lo ≤ c ∧ c < hi) w w') := by
  have HN : Hid (l.length = n) := hn
  by_cases h0 : n = 0
  · subst h0
    clear ha hn
    go_enter Try.func48, Try.ntmps48
    go_wp2
    go_loop [5, 1] (fun i k => i = .int .i64 0 ∧ k = .int .i64 (K : Int)) (fun _ _ => 0)
    case atStart => exact ⟨rfl, rfl⟩
    case round =>
      obtain ⟨rfl, rfl⟩ := hrel
      go_wp2
      go_ret
      exact ⟨rfl, .inl (by simp [marksE]), KeptP.refl _ _⟩
  · obtain ⟨b, rfl, h1, h2, hb⟩ : ∃ b, a = some ⟨b, 0, none⟩ ∧ lo ≤ b ∧ b < hi ∧ EBlk w b l := by
      rcases ha with rfl | h
      · exact absurd HN.out (by simp; omega)
      · exact h
    have HX : Hid (lo ≤ b ∧ b < hi) := ⟨h1, h2⟩
    have HB0 : Hid (EBlk w b l) := hb
    clear ha hb hn h1 h2
    go_enter Try.func48, Try.ntmps48
    go_wp2
    go_loopw [5, 1] (fun i s wr => ∃ k : Nat, i = .int .i64 k ∧ s = .int .i64 ((K + k * 3 : Nat) : Int) ∧ k ≤ n ∧ Hid (∃ L : List Ed, L.length = n ∧ EBlk wr b L ∧ ∀ j, j < k → eat L j = eat (marksE K n) j) ∧ Hid (KeptP (fun c => lo ≤ c ∧ c < hi) w wr)) (fun i _ _ => n - (intOf i).toNat)
    case atStart => exact ⟨0, rfl, by simp, by omega, ⟨l, HN.out, HB0.out, fun j hj => absurd hj (by omega)⟩, KeptP.refl _ _⟩
    case round =>
      obtain ⟨k, rfl, rfl, hk, HP, HL⟩ := hrel
      by_cases hlt : k < n
      · have hlt1 : (k : Int) < (n : Int) := by omega
        obtain ⟨L, hL, hblk, hall⟩ := HP.out
        have HBK : Hid (EBlk wr b L) := hblk
        have HALL : Hid (∀ j, j < k → eat L j = eat (marksE K n) j) := hall
        have HLL : Hid (L.length = n) := hL
        have hd0 := Blk.cell hblk (i := k * 3) (by omega)
        have hd1 := Blk.cell hblk (i := k * 3 + 1) (by omega)
        have hd2 := Blk.cell hblk (i := k * 3 + 2) (by omega)
        have hf0 := Blk.frozen hblk (k * 3)
        have hf1 := Blk.frozen hblk (k * 3 + 1)
        have hf2 := Blk.frozen hblk (k * 3 + 2)
        clear hblk hall hL
        go_wp2
        go_roundw
        case rel =>
          have hst := HBK.out.put (k := k) (by rw [HLL.out]; exact hlt) (eat (marksE K n) k)
          rw [marksE_at hlt] at hst
          refine ⟨k + 1, by go_num, by go_num, by omega, ⟨L.set k (eat (marksE K n) k), by rw [List.length_set]; exact HLL.out, ?_, fun j hj => ?_⟩, ?_⟩
          · rw [marksE_at hlt]
            have e0 : ((K + k * 3 : Nat) : Int) = (K : Int) + (k : Int) * 3 := by omega
            have e1 : ((K + k * 3 + 1 : Nat) : Int) = (K : Int) + (k : Int) * 3 + 1 := by omega
            have e2 : ((K + k * 3 + 2 : Nat) : Int) = (K : Int) + (k : Int) * 3 + 1 + 1 := by omega
            rw [e0, e1, e2] at hst ⊢
            exact hst
          · rw [eat_set (by rw [HLL.out]; exact hlt)]
            by_cases e : j = k
            · subst e; rw [if_pos rfl]
            · rw [if_neg e]; exact HALL.out j (by omega)
          · exact ((HL.out.setCell HX.out _).setCell HX.out _).setCell HX.out _
        case measure => simp [intOf]; omega
      · obtain rfl : k = n := by omega
        go_wp2
        go_ret
        obtain ⟨L, hL, hblk, hall⟩ := HP.out
        have : L = marksE K k := eat_ext (by rw [hL, marksE_len]) (fun i hi => hall i (by rw [← hL]; exact hi))
        subst this
        exact ⟨rfl, .inr ⟨b, rfl, HX.out.1, HX.out.2, hblk⟩, HL⟩

set_option maxHeartbeats 2000000 in
set_option maxRecDepth 100000 in
theorem heldArcs_any (lo hi : Nat) (a : Option Addr) (n cap K : Nat) (w : World) (ha : EdgesIn lo hi w a (marksE K n)) (hm : n ≤ 1048576) (hK : K ≤ 1099511627776) :
    Calls Try.prog 54 #[.slice a n cap, .int .i64 (K : Int)] w fun e w' => e = .returned (.int .i64 ((K + n * 3 : Nat) : Int)) ∧ w = w' := by
  have HA : Hid (EdgesIn lo hi w a (marksE K n)) := ha
  clear ha
  go_enter Try.func54, Try.ntmps54
  go_wp2
  go_loop [5, 1] (fun i s => ∃ k : Nat, i = .int .i64 k ∧ s = .int .i64 ((K + k * 3 : Nat) : Int) ∧ k ≤ n) (fun i _ => n - (intOf i).toNat)
  case atStart => exact ⟨0, rfl, by simp, by omega⟩
  case round =>
    obtain ⟨k, rfl, rfl, hk⟩ := hrel
    by_cases hlt : k < n
    · have hlt1 : (k : Int) < (n : Int) := by omega
      obtain ⟨b, o, rfl, _, _, hc⟩ := HA.out.edge (k := k) (by rw [marksE_len]; exact hlt)
      rw [marksE_at hlt] at hc
      obtain ⟨c0, c1, c2⟩ := hc
      dsimp only at c0 c1 c2
      go_wp2
      go_roundw
      case rel => exact ⟨k + 1, by go_num, by go_num, by omega⟩
      case measure => simp [intOf]; omega
    · obtain rfl : k = n := by omega
      go_wp2
      go_ret
      exact ⟨rfl, rfl⟩

open Go.ChangeShapes Go.WideShapes Go.ChangeAt Go.Deep in
set_option maxRecDepth 100000 in
/-- edges that came in, out of their reading -/
theorem arcs_trod {H : Type} {enc : TypeId × Value → H} {W : World} {fuel : Nat} {v : Value} {x : DataW H × List MemPlace}
    (hf : DataW.trod enc Try.prog W 0 (fun _ => true) true fuel 22 [v] = some x) : ∃ (ao : Option Addr) (n cap : Nat) (l : List Ed), v = .slice ao n cap ∧ n ≤ maxLen ∧ l.length = n ∧ EdgesIn 0 W.heap.size W ao l := by
  rcases open_slice Try.underlying22 hf with ⟨hcs, _⟩ | ⟨a, len, cap, m, n, D, Pl, hcs, _, hl, hm, hmm, _, hx⟩
  · simp at hcs
    subst hcs
    exact ⟨none, 0, 0, [], rfl, Nat.zero_le _, rfl, .inl rfl⟩
  · simp at hcs
    subst hcs
    have ce : Try.prog.cellsOf 99 = 3 := by kernel_rfl
    have hlm : len ≤ m := by rw [hmm]; simp; exact hl
    have each : ∀ i, i < len → ∃ q : Ed, W.cell? (a.add (i * 3)) = some (.int .i64 q.1) ∧ W.cell? (a.add (i * 3 + 1)) = some (.int .u8 q.2.1) ∧ W.cell? (a.add (i * 3 + 2)) = some (.int .i64 q.2.2) := by
      intro i hi
      obtain ⟨cs', h1, h2⟩ := hx i (by omega)
      rw [ce] at h1
      obtain ⟨_, hlen, hcell⟩ := World.cells?_some h1
      obtain ⟨y0, y1, y2, k, _, _, g0, g1, g2⟩ := trod_struct3 Try.underlying99 h2
      match cs', hlen with
      | [v0, v1, v2], _ =>
        have c3 : Try.prog.cellsOf 3 = 1 := by kernel_rfl
        have c5 : Try.prog.cellsOf 5 = 1 := by kernel_rfl
        simp only [c3, c5, List.drop_zero, List.drop_succ_cons, List.take_succ_cons, List.take_zero] at g0 g1 g2
        obtain ⟨z0, e0, _, _⟩ := DataW.trod_int Try.underlying3 g0
        obtain ⟨z1, e1, _, _⟩ := DataW.trod_int Try.underlying5 g1
        obtain ⟨z2, e2, _, _⟩ := DataW.trod_int Try.underlying3 g2
        simp at e0 e1 e2
        have q0 := hcell 0 (by omega)
        have q1 := hcell 1 (by omega)
        have q2 := hcell 2 (by omega)
        rw [add_add] at q0 q1 q2
        subst e0 e1 e2
        exact ⟨(z0, z1, z2), by simpa using q0, by simpa using q1, by simpa using q2⟩
    obtain ⟨f, hfn⟩ := choose_lt each
    have hgd : ∀ i, i < len → eat ((List.range len).map f) i = f i := fun i hi => by simp [eat, List.getD, hi]
    refine ⟨some a, len, cap, (List.range len).map f, rfl, by omega, by simp, ?_⟩
    by_cases h0 : len = 0
    · exact .inl (by subst h0; rfl)
    · obtain ⟨b, off, spot⟩ := a
      have c0 := (hfn 0 (by omega)).1
      obtain rfl := spot_none (by simpa using c0)
      rw [add_none] at c0
      refine .inr ⟨b, off, rfl, Nat.zero_le _, lt_of_cell c0, fun i hi => ?_⟩
      simp at hi
      obtain ⟨c0, c1, c2⟩ := hfn i hi
      rw [add_none] at c0 c1 c2
      rw [hgd i hi]
      exact ⟨c0, by rw [Nat.add_assoc]; exact c1, by rw [Nat.add_assoc]; exact c2⟩
theorem cells99 : Try.prog.cellsOf 99 = 3 := by kernel_rfl
end Go.Proofs.Ytdhkkabcgehjpaa
