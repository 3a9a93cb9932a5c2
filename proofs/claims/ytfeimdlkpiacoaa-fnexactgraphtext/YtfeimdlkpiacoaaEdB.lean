/-
  Lists of edges: how one lies in the world, one that is owned; toEdge, toEdgeS, toGraph, szGraph.
-/
import Derived.Test.YtfeimdlkpiacoaaEdA
import Derived.Laws.MakeOwn
namespace Go.Proofs.Ytfeimdlkpiacoaa
open Go.RowKit

def eat (l : List Ed) (i : Nat) : Ed := l.getD i (0, 0, 0)
/-- the cells of a list of edges -/
def ef (l : List Ed) (j : Nat) : Value := if j % 3 = 0 then .int .i64 (eat l (j / 3)).1 else if j % 3 = 1 then .int .u8 (eat l (j / 3)).2.1 else .int .i64 (eat l (j / 3)).2.2
theorem ef0 (l : List Ed) (i : Nat) : ef l (i * 3) = .int .i64 (eat l i).1 := by unfold ef; rw [if_pos (by omega), show i * 3 / 3 = i by omega]
theorem ef1 (l : List Ed) (i : Nat) : ef l (i * 3 + 1) = .int .u8 (eat l i).2.1 := by unfold ef; rw [if_neg (by omega), if_pos (by omega), show (i * 3 + 1) / 3 = i by omega]
theorem ef2 (l : List Ed) (i : Nat) : ef l (i * 3 + 2) = .int .i64 (eat l i).2.2 := by unfold ef; rw [if_neg (by omega), if_neg (by omega), show (i * 3 + 2) / 3 = i by omega]
theorem eat_get {l : List Ed} {i : Nat} (h : i < l.length) : eat l i = l[i] := by simp [eat, List.getD, h]
theorem eat_ext {l l' : List Ed} (h1 : l.length = l'.length) (h : ∀ i, i < l.length → eat l i = eat l' i) : l = l' := by
  apply List.ext_getElem h1
  intro i hi hi'
  have := h i hi
  rwa [eat_get hi, eat_get hi'] at this
theorem eat_set {l : List Ed} {k i : Nat} (hk : k < l.length) (x : Ed) : eat (l.set k x) i = if i = k then x else eat l i := by
  unfold eat List.getD
  by_cases e : i = k
  · subst e; simp [hk]
  · simp [e, List.getElem?_set_ne (Ne.symm e)]

/-- an edge that lies at a place -/
def EdgeAt (w : World) (b o : Nat) (x : Ed) : Prop := w.cell? ⟨b, o, none⟩ = some (.int .i64 x.1) ∧ w.cell? ⟨b, o + 1, none⟩ = some (.int .u8 x.2.1) ∧ w.cell? ⟨b, o + 2, none⟩ = some (.int .i64 x.2.2)
/-- edges that are reached by a slice; their block is one of lo .. hi - 1 -/
def EdgesIn (lo hi : Nat) (w : World) (a : Option Addr) (l : List Ed) : Prop :=
  l = [] ∨ ∃ b o, a = some ⟨b, o, none⟩ ∧ lo ≤ b ∧ b < hi ∧ ∀ i, i < l.length → EdgeAt w b (o + i * 3) (eat l i)
/-- a block that holds edges -/
def EBlk (w : World) (b : Nat) (l : List Ed) : Prop := Blk w b (l.length * 3) (ef l)
/-- edges that are owned: their block is their own -/
def EdgesOwn (lo hi : Nat) (w : World) (a : Option Addr) (l : List Ed) : Prop :=
  l = [] ∨ ∃ b, a = some ⟨b, 0, none⟩ ∧ lo ≤ b ∧ b < hi ∧ EBlk w b l

theorem EdgeAt.below {w w' : World} {b o B : Nat} {x : Ed} (h : EdgeAt w b o x) (hb : Below B w w') (hl : b < B) : EdgeAt w' b o x :=
  ⟨cell_below h.1 hb hl, cell_below h.2.1 hb hl, cell_below h.2.2 hb hl⟩
theorem EdgesIn.below {lo hi B : Nat} {w w' : World} {a : Option Addr} {l : List Ed} (h : EdgesIn lo hi w a l) (hb : Below B w w') (hB : hi ≤ B) : EdgesIn lo hi w' a l := by
  rcases h with h | ⟨b, o, e, h1, h2, h3⟩
  · exact .inl h
  · exact .inr ⟨b, o, e, h1, h2, fun i hi => (h3 i hi).below hb (by omega)⟩
theorem EdgesIn.wide {lo hi lo' hi' : Nat} {w : World} {a : Option Addr} {l : List Ed} (h : EdgesIn lo hi w a l) (h1 : lo' ≤ lo) (h2 : hi ≤ hi') : EdgesIn lo' hi' w a l := by
  rcases h with h | ⟨b, o, e, h3, h4, h5⟩
  · exact .inl h
  · exact .inr ⟨b, o, e, by omega, by omega, h5⟩
theorem EdgesIn.kept {lo hi : Nat} {p : Nat → Prop} {w w' : World} {a : Option Addr} {l : List Ed} (h : EdgesIn lo hi w a l) (hk : KeptP p w w') (hh : hi ≤ w.heap.size) (hp : ∀ k, lo ≤ k → k < hi → ¬ p k) : EdgesIn lo hi w' a l := by
  rcases h with h | ⟨b, o, e, h1, h2, h3⟩
  · exact .inl h
  · refine .inr ⟨b, o, e, h1, h2, fun i hi => ?_⟩
    obtain ⟨c0, c1, c2⟩ := h3 i hi
    exact ⟨hk.cell c0 (by omega) (hp b h1 h2), hk.cell c1 (by omega) (hp b h1 h2), hk.cell c2 (by omega) (hp b h1 h2)⟩
theorem EdgesIn.edge {lo hi : Nat} {w : World} {a : Option Addr} {l : List Ed} (h : EdgesIn lo hi w a l) {k : Nat} (hk : k < l.length) : ∃ b o, a = some ⟨b, o, none⟩ ∧ lo ≤ b ∧ b < hi ∧ EdgeAt w b (o + k * 3) (eat l k) := by
  rcases h with rfl | ⟨b, o, e, h1, h2, h3⟩
  · simp at hk
  · exact ⟨b, o, e, h1, h2, h3 k hk⟩
theorem EBlk.edge {w : World} {b k : Nat} {l : List Ed} (h : EBlk w b l) (hk : k < l.length) : EdgeAt w b (k * 3) (eat l k) := by
  refine ⟨?_, ?_, ?_⟩
  · rw [Blk.cell h (by omega), ef0]
  · rw [Blk.cell h (by omega), ef1]
  · rw [Blk.cell h (by omega), ef2]
theorem EdgesOwn.toIn {lo hi : Nat} {w : World} {a : Option Addr} {l : List Ed} (h : EdgesOwn lo hi w a l) : EdgesIn lo hi w a l := by
  rcases h with h | ⟨b, e, h1, h2, h3⟩
  · exact .inl h
  · exact .inr ⟨b, 0, e, h1, h2, fun i hi => by rw [Nat.zero_add]; exact h3.edge hi⟩
theorem EdgesOwn.below {lo hi B : Nat} {w w' : World} {a : Option Addr} {l : List Ed} (h : EdgesOwn lo hi w a l) (hb : Below B w w') (hB : hi ≤ B) : EdgesOwn lo hi w' a l := by
  rcases h with h | ⟨b, e, h1, h2, h3⟩
  · exact .inl h
  · exact .inr ⟨b, e, h1, h2, Blk.of_block h3 (hb.block b (by omega))⟩
theorem EdgesOwn.wide {lo hi lo' hi' : Nat} {w : World} {a : Option Addr} {l : List Ed} (h : EdgesOwn lo hi w a l) (h1 : lo' ≤ lo) (h2 : hi ≤ hi') : EdgesOwn lo' hi' w a l := by
  rcases h with h | ⟨b, e, h3, h4, h5⟩
  · exact .inl h
  · exact .inr ⟨b, e, by omega, by omega, h5⟩
theorem EdgesOwn.kept {lo hi : Nat} {p : Nat → Prop} {w w' : World} {a : Option Addr} {l : List Ed} (h : EdgesOwn lo hi w a l) (hk : KeptP p w w') (hp : ∀ k, lo ≤ k → k < hi → ¬ p k) : EdgesOwn lo hi w' a l := by
  rcases h with h | ⟨b, e, h1, h2, h3⟩
  · exact .inl h
  · exact .inr ⟨b, e, h1, h2, hk.blk h3 (hp b h1 h2)⟩
theorem EdgesOwn.setCell {lo hi b j : Nat} {w : World} {a : Option Addr} {l : List Ed} (h : EdgesOwn lo hi w a l) (hb : b < lo) (v : Value) : EdgesOwn lo hi (w.setCell ⟨b, j, none⟩ v) a l := by
  rcases h with h | ⟨g, e, h1, h2, h3⟩
  · exact .inl h
  · exact .inr ⟨g, e, h1, h2, Blk.of_block h3 (Below.heap_setCell w ⟨b, j, none⟩ v g (by simp; omega))⟩

/-- one edge stored in its place -/
theorem EBlk.put {w : World} {b k : Nat} {l : List Ed} (h : EBlk w b l) (hk : k < l.length) (x : Ed) :
    EBlk (((w.setCell ⟨b, k * 3, none⟩ (.int .i64 x.1)).setCell ⟨b, k * 3 + 1, none⟩ (.int .u8 x.2.1)).setCell ⟨b, k * 3 + 2, none⟩ (.int .i64 x.2.2)) b (l.set k x) := by
  have h3 := ((Blk.set h (k * 3) (by omega) (.int .i64 x.1)).set (k * 3 + 1) (by omega) (.int .u8 x.2.1)).set (k * 3 + 2) (by omega) (.int .i64 x.2.2)
  unfold EBlk
  rw [List.length_set]
  refine h3.congr fun j hj => ?_
  unfold ef
  rw [eat_set hk]
  by_cases e2 : j = k * 3 + 2
  · subst e2
    rw [if_pos rfl, if_neg (by omega), if_neg (by omega), if_pos (by omega)]
  · rw [if_neg e2]
    by_cases e1 : j = k * 3 + 1
    · subst e1
      rw [if_pos rfl, if_neg (by omega), if_pos (by omega), if_pos (by omega)]
    · rw [if_neg e1]
      by_cases e0 : j = k * 3
      · subst e0
        rw [if_pos rfl, if_pos (by omega), if_pos (by omega)]
      · rw [if_neg e0, if_neg (show ¬ j / 3 = k by omega)]

theorem set_above {w w' : World} {B b j : Nat} (h : Below B w w') (hb : B ≤ b) (v : Value) : Below B w (w'.setCell ⟨b, j, none⟩ v) := h.setCell hb v

theorem blk_three (w : World) (b : Nat) (hb : b = w.heap.size) (x y z : Value) (T : TypeId) : Blk (w.alloc (.cells #[x, y, z] T)) b 3 (fun i => if i = 0 then x else if i = 1 then y else z) :=
  hb ▸ blk_new w #[x, y, z] T _ (fun i hi => by
    have hi' : i < 3 := hi
    rcases i with _ | _ | _ | i
    · rfl
    · rfl
    · rfl
    · omega)

set_option maxHeartbeats 1000000 in
theorem toEdge_any (x : Ed) (w : World) : Calls Try.prog 15 #[ev x] w fun e w' => e = .returned (ev x) ∧ Hid (Below w.heap.size w w') := by
  obtain ⟨x0, x1, x2⟩ := x
  go_enter Try.func15, Try.ntmps15
  go_wp2
  generalize hW : World.alloc _ _ = W6
  have HB : Hid (Below w.heap.size w W6) := by
    show Below _ _ _
    rw [← hW]
    exact below3 w _ _ _
  have hk : Blk W6 (w.heap.size + 1) 3 (fun i => if i = 0 then .int .i64 x0 else if i = 1 then .int .u8 x1 else .int .i64 x2) := by
    rw [← hW]
    exact (blk_three (w.alloc _) (w.heap.size + 1) (by simp) _ _ _ _).alloc _
  have c0 : W6.cell? ⟨w.heap.size + 1, 0, none⟩ = some (.int .i64 x0) := hk.cell (i := 0) (by omega)
  have c1 : W6.cell? ⟨w.heap.size + 1, 1, none⟩ = some (.int .u8 x1) := hk.cell (i := 1) (by omega)
  have c2 : W6.cell? ⟨w.heap.size + 1, 2, none⟩ = some (.int .i64 x2) := hk.cell (i := 2) (by omega)
  clear hW hk
  refine bodyPost_ret (v := .agg #[.int .i64 x0, .int .u8 x1, .int .i64 x2]) (by simp [results, Try.results15, go_sem, c0, c1, c2]) rfl ?_
  exact ⟨rfl, HB⟩

theorem Try.info37 : (Try.prog.info? 37).map (fun i => (i.zero, i.size, i.bytes)) = some (some (.agg #[.int .i64 0, .int .u8 0, .int .i64 0]), 3, 24) := by kernel_rfl

set_option maxHeartbeats 400000 in
theorem szEdges_yes (a : Option Addr) (n cap L : Nat) (w : World) (hm : n ≤ 9223372036854775807) (hL : L ≤ 1048576) (h : n ≤ L) :
    Calls Try.prog 30 #[.slice a n cap, .int .i64 (L : Int)] w fun e w' => e = .returned (.int .i64 ((L - n : Nat) : Int)) ∧ w = w' := by
  have hn : ¬ (L : Int) - (n : Int) < 0 := by omega
  have he : (L : Int) - (n : Int) = ((L - n : Nat) : Int) := by omega
  go_enter Try.func30, Try.ntmps30
  go_wp2
  go_ret
  exact ⟨by first | rfl | rw [he]; rfl, rfl⟩
set_option maxHeartbeats 400000 in
theorem szEdges_no (a : Option Addr) (n cap L : Nat) (w : World) (hm : n ≤ 9223372036854775807) (hL : L ≤ 1048576) (h : L < n) :
    Calls Try.prog 30 #[.slice a n cap, .int .i64 (L : Int)] w fun e w' => e = .returned (.int .i64 (-1)) ∧ w = w' := by
  have hn : (L : Int) - (n : Int) < 0 := by omega
  go_enter Try.func30, Try.ntmps30
  go_wp2
  go_ret
  exact ⟨rfl, rfl⟩
set_option maxHeartbeats 400000 in
theorem szGraph_any (a : Option Addr) (n cap L : Nat) (s : Int) (w : World) (hm : n ≤ 9223372036854775807) (hL : L ≤ 1048576) :
    Calls Try.prog 9 #[.agg #[.int .i64 s, .slice a n cap], .int .i64 (L : Int)] w fun e w' => ∃ x : Int, e = .returned (.int .i64 x) ∧ Hid (x < 0 ∨ n ≤ L) ∧ Hid (Below w.heap.size w w') := by
  by_cases h : n ≤ L
  · have hn : ¬ ((L - n : Nat) : Int) < 0 := by omega
    go_enter Try.func9, Try.ntmps9
    go_wp2_with fail
    refine (szEdges_yes a n cap L _ hm hL h).mono ?_
    rintro e w' ⟨rfl, rfl⟩
    go_wp2
    go_ret
    exact ⟨_, rfl, .inr h, (Below.refl _ _).alloc (Nat.le_refl _) _⟩
  · go_enter Try.func9, Try.ntmps9
    go_wp2_with fail
    refine (szEdges_no a n cap L _ hm hL (by omega)).mono ?_
    rintro e w' ⟨rfl, rfl⟩
    go_wp2
    go_ret
    exact ⟨-1, rfl, .inl (by omega), (Below.refl _ _).alloc (Nat.le_refl _) _⟩

theorem madeE (n j : Nat) (h : j < n * 3) : (madeCells (Value.agg #[.int .i64 0, .int .u8 0, .int .i64 0]).cells (n * 3))[j]? = some (ef (List.replicate n (0, 0, 0)) j) := by
  have he : ∀ i, eat (List.replicate n (0, 0, 0)) i = (0, 0, 0) := fun i => by
    unfold eat List.getD
    by_cases h : i < n <;> simp [h]
  unfold ef
  rw [he]
  unfold madeCells
  rw [Array.getElem?_map, Array.getElem?_eq_getElem (by simpa using h)]
  simp only [Array.getElem_range, Option.map_some, Option.some.injEq]
  change (#[Value.int .i64 0, .int .u8 0, .int .i64 0] : Array Value)[j % 3]! = _
  rcases (show j % 3 = 0 ∨ j % 3 = 1 ∨ j % 3 = 2 by omega) with e | e | e <;> rw [e] <;> rfl

set_option maxHeartbeats 1000000 in
set_option maxRecDepth 100000 in
theorem toEdges_any (lo hi : Nat) (a : Option Addr) (n cap : Nat) (l : List Ed) (w : World) (ha : EdgesIn lo hi w a l) (hh : hi ≤ w.heap.size) (hn : l.length = n) (hm : n ≤ 1048576) :
    Calls Try.prog 33 #[.slice a n cap] w fun e w' => ∃ g : Nat, e = .returned (.slice (some ⟨g, 0, none⟩) n n) ∧ Hid (EdgesOwn w.heap.size w'.heap.size w' (some ⟨g, 0, none⟩) l) ∧ Hid (Below w.heap.size w w') := by
  have HN : Hid (l.length = n) := hn
  have HA : Hid (EdgesIn lo hi w a l) := ha
  have HH : Hid (hi ≤ w.heap.size) := hh
  obtain ⟨i0, hi0, hz0, hz1, hz2⟩ := info_parts Try.info37
  have hmk := Go.run_make (P := Try.prog) w 27 37 i0 _ Try.underlying27 hi0 hz0 .i64 .i64 (n : Int) (n : Int) (by omega) (by omega) (by rw [hz2]; omega) (by omega)
  rw [hz1] at hmk
  obtain ⟨cs, hcs⟩ : ∃ cs, cs = madeCells (Value.agg #[.int .i64 0, .int .u8 0, .int .i64 0]).cells ((n : Int).toNat * 3) := ⟨_, rfl⟩
  rw [← hcs, Int.toNat_natCast] at hmk
  have HZ : Hid (cs = madeCells (Value.agg #[.int .i64 0, .int .u8 0, .int .i64 0]).cells (n * 3)) := by show _ = _; rw [hcs, Int.toNat_natCast]
  clear ha hn hh hcs hi0 hz0 hz1 hz2
  go_enter Try.func33, Try.ntmps33
  go_wp2
  go_loopw [4] (fun i wr => ∃ k : Nat, i = .int .i64 k ∧ k ≤ n ∧ Hid (∃ L : List Ed, L.length = n ∧ EBlk wr w.heap.size L ∧ ∀ j, j < k → eat L j = eat l j) ∧ Hid (Below w.heap.size w wr) ∧ Hid (w.heap.size < wr.heap.size)) (fun i _ => n - (intOf i).toNat)
  case atStart =>
    refine ⟨0, rfl, by omega, ⟨List.replicate n (0, 0, 0), by simp, ?_, fun j hj => absurd hj (by omega)⟩, (Below.refl _ _).alloc (Nat.le_refl _) _, by show _ < _; simp⟩
    have hs : cs.size = n * 3 := by rw [HZ.out, size_madeCells]
    have := blk_new w cs 37 (ef (List.replicate n (0, 0, 0))) (fun i hi => by rw [HZ.out]; exact madeE n i (by omega))
    unfold EBlk
    rw [List.length_replicate, ← hs]
    exact this
  case round =>
    obtain ⟨k, rfl, hk, HP, HL, HS⟩ := hrel
    by_cases hlt : k < n
    · have hlt1 : (k : Int) < (n : Int) := by omega
      obtain ⟨b, o, rfl, h1, h2, hc0, hc1, hc2⟩ := (HA.out.below HL.out HH.out).edge (k := k) (by rw [HN.out]; exact hlt)
      obtain ⟨x, HX⟩ : ∃ x : Ed, Hid (x = eat l k) := ⟨_, rfl⟩
      rw [← HX.out] at hc0 hc1 hc2
      obtain ⟨x0, x1, x2⟩ := x
      dsimp only at hc0 hc1 hc2
      clear h1 h2
      go_wp2_with fail
      refine (toEdge_any (x0, x1, x2) wr).mono ?_
      rintro e w1 ⟨rfl, B1⟩
      have HS1 : Hid (wr.heap.size ≤ w1.heap.size) := B1.out.size
      have HB1 : Hid (Below w.heap.size w w1) := HL.out.trans (B1.out.mono HL.out.size)
      obtain ⟨L, hL, hblk0, hall⟩ := HP.out
      have hblk : EBlk w1 w.heap.size L := Blk.of_block hblk0 (B1.out.block _ HS.out)
      have HBK : Hid (EBlk w1 w.heap.size L) := hblk
      have HALL : Hid (∀ j, j < k → eat L j = eat l j) := hall
      have HLL : Hid (L.length = n) := hL
      have hd0 := Blk.cell hblk (i := k * 3) (by omega)
      have hd1 := Blk.cell hblk (i := k * 3 + 1) (by omega)
      have hd2 := Blk.cell hblk (i := k * 3 + 2) (by omega)
      have hf0 := Blk.frozen hblk (k * 3)
      have hf1 := Blk.frozen hblk (k * 3 + 1)
      have hf2 := Blk.frozen hblk (k * 3 + 2)
      clear hblk hblk0 hall hL hc0 hc1 hc2 B1
      go_wp2
      go_roundw
      case rel =>
        have hst := HBK.out.put (k := k) (by rw [HLL.out]; exact hlt) (x0, x1, x2)
        refine ⟨k + 1, by go_num, by omega, ⟨L.set k (x0, x1, x2), by rw [List.length_set]; exact HLL.out, by simpa using hst, fun j hj => ?_⟩, ?_, ?_⟩
        · rw [eat_set (by rw [HLL.out]; exact hlt)]
          by_cases e : j = k
          · subst e; rw [if_pos rfl]; exact HX.out
          · rw [if_neg e]; exact HALL.out j (by omega)
        · exact set_above (set_above (set_above HB1.out (Nat.le_refl _) _) (Nat.le_refl _) _) (Nat.le_refl _) _
        · have := HS.out; have := HS1.out; show _ < _; simp; omega
      case measure => simp [intOf]; omega
    · obtain rfl : k = n := by omega
      go_wp2
      go_ret
      obtain ⟨L, hL, hblk, hall⟩ := HP.out
      have : L = l := eat_ext (by rw [hL, HN.out]) (fun i hi => hall i (by rw [← hL]; exact hi))
      subst this
      exact ⟨w.heap.size, rfl, .inr ⟨_, rfl, Nat.le_refl _, HS.out, hblk⟩, HL.out⟩
end Go.Proofs.Ytfeimdlkpiacoaa
