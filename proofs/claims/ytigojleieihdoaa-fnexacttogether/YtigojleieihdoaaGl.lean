/-
  Lists of graphs: those that came in (szGraphS), their copies (toGraphS), held against one another (eqGraphS), marked (markGraphS).
-/
import Derived.Test.YtigojleieihdoaaGs
import Derived.Laws.MakeOwn
import Derived.Deep.DeepCutAuto
namespace Go.Proofs.Ytigojleieihdoaa
open Go.RowKit

set_option maxHeartbeats 400000 in
theorem szGraph_yes (a : Option Addr) (n cap L : Nat) (s : Int) (w : World) (hm : n ≤ 9223372036854775807) (hL : L ≤ 1048576) (h : n ≤ L) :
    Calls Try.prog 13 #[gv s a n cap, .int .i64 (L : Int)] w fun e w' => e = .returned (.int .i64 ((L - n : Nat) : Int)) ∧ Hid (Below w.heap.size w w') := by
  obtain ⟨r, HR⟩ : ∃ r, Hid (r = L - n) := ⟨_, rfl⟩
  have hn : ¬ ((r : Nat) : Int) < 0 := by omega
  rw [← HR.out]
  go_enter Try.func13, Try.ntmps13
  go_wp2_with fail
  refine (szEdges_yes a n cap L _ hm hL h).mono ?_
  rintro e w' ⟨rfl, rfl⟩
  rw [← HR.out]
  go_wp2
  go_ret
  exact ⟨rfl, below1 w _⟩
set_option maxHeartbeats 400000 in
theorem szGraph_no (a : Option Addr) (n cap L : Nat) (s : Int) (w : World) (hm : n ≤ 9223372036854775807) (hL : L ≤ 1048576) (h : L < n) :
    Calls Try.prog 13 #[gv s a n cap, .int .i64 (L : Int)] w fun e w' => e = .returned (.int .i64 (-1)) ∧ Hid (Below w.heap.size w w') := by
  go_enter Try.func13, Try.ntmps13
  go_wp2_with fail
  refine (szEdges_no a n cap L _ hm hL h).mono ?_
  rintro e w' ⟨rfl, rfl⟩
  go_wp2
  go_ret
  exact ⟨rfl, below1 w _⟩

set_option maxHeartbeats 2000000 in
set_option maxRecDepth 100000 in
theorem szGraphs_any (hi : Nat) (a : Option Addr) (n cap : Nat) (G : List Gr) (w : World) (ha : GrsIn 0 hi w a G) (hh : hi ≤ w.heap.size) (hn : G.length = n) (hm : n ≤ 9223372036854775807) (hml : ∀ i, i < n → (gat G i).2.length ≤ 9223372036854775807) :
    Calls Try.prog 4 #[.slice a n cap, .int .i64 1048576] w fun e w' => ∃ x : Int, e = .returned (.int .i64 x) ∧ Hid (x < 0 ∨ (n ≤ 1048576 ∧ (catTo G G.length).length ≤ 1048576)) ∧ Hid (Below w.heap.size w w') := by
  have HN : Hid (G.length = n) := hn
  have HA : Hid (GrsIn 0 hi w a G) := ha
  have HH : Hid (hi ≤ w.heap.size) := hh
  have HML : Hid (∀ i, i < n → (gat G i).2.length ≤ 9223372036854775807) := hml
  clear ha hh hn hml
  by_cases h0 : (1048576 : Int) - (n : Int) < 0
  · go_enter Try.func4, Try.ntmps4
    go_wp2
    go_ret
    exact ⟨-1, rfl, .inl (by omega), Below.refl _ _⟩
  obtain ⟨L0, HL0⟩ : ∃ L0 : Nat, Hid ((1048576 : Int) - (n : Int) = (L0 : Int)) := ⟨1048576 - n, by show _ = _; omega⟩
  have hL0 : L0 + n = 1048576 := by have := HL0.out; omega
  have hneg : ¬ ((L0 : Nat) : Int) < 0 := by omega
  go_enter Try.func4, Try.ntmps4
  go_wp2
  try rw [HL0.out]
  go_loopw [5, 1] (fun i v wr => ∃ k L1 : Nat, i = .int .i64 k ∧ v = .int .i64 (L1 : Int) ∧ k ≤ n ∧ Hid (L1 + (catTo G k).length = L0) ∧ Hid (Below w.heap.size w wr)) (fun i _ _ => n - (intOf i).toNat)
  case atStart => exact ⟨0, L0, rfl, by first | rfl | rw [HL0.out], by omega, rfl, Below.refl _ _⟩
  case round =>
    obtain ⟨k, L1, rfl, rfl, hk, HS, HL⟩ := hrel
    have hL1 : L1 ≤ 1048576 := by have := HS.out; omega
    by_cases hlt : k < n
    · have hlt1 : (k : Int) < (n : Int) := by omega
      have hlt0 : (0 : Int) ≤ (k : Int) := by omega
      have hkl : k < G.length := by rw [HN.out]; exact hlt
      obtain ⟨b, o, rfl, hb, hgk⟩ := (HA.out.below HL.out HH.out).graph hkl
      obtain ⟨ak, ck, q0, q1, _⟩ := hgk
      have hnk := HML.out k hlt
      have HST : Hid (catTo G (k + 1) = catTo G k ++ (gat G k).2) := catTo_step hkl
      obtain ⟨sk, HSK⟩ : ∃ sk, Hid (sk = (gat G k).1) := ⟨_, rfl⟩
      obtain ⟨nk, HNK⟩ : ∃ nk, Hid ((gat G k).2.length = nk) := ⟨_, rfl⟩
      rw [← HSK.out] at q0
      rw [HNK.out] at q1 hnk
      by_cases hle : nk ≤ L1
      · obtain ⟨L2, HL2⟩ : ∃ L2, Hid (L1 - nk = L2) := ⟨_, rfl⟩
        have hn2 : ¬ ((L2 : Nat) : Int) < 0 := by omega
        go_wp2_with fail
        refine (szGraph_yes ak nk ck L1 sk wr hnk hL1 hle).mono ?_
        rintro e w1 ⟨rfl, B1⟩
        rw [HL2.out]
        clear q0 q1
        go_wp2
        go_roundw
        case rel => exact ⟨k + 1, L2, by go_num, rfl, by omega, by show _ = _; rw [HST.out, List.length_append, HNK.out]; have := HL2.out; have := HS.out; omega, HL.out.trans (B1.out.mono HL.out.size)⟩
        case measure => simp [intOf]; omega
      · go_wp2_with fail
        refine (szGraph_no ak nk ck L1 sk wr hnk hL1 (by omega)).mono ?_
        rintro e w1 ⟨rfl, B1⟩
        clear q0 q1
        go_wp2
        go_ret
        exact ⟨-1, rfl, .inl (by omega), HL.out.trans (B1.out.mono HL.out.size)⟩
    · obtain rfl : k = n := by omega
      go_wp2
      go_ret
      exact ⟨(L1 : Int), rfl, .inr ⟨by omega, by have := HS.out; rw [HN.out]; omega⟩, HL⟩

/-- the cells of a list of graphs that a call made -/
def gcell (z : Nat → Int) (A C : Nat → Nat) (j : Nat) : Value := if j % 2 = 0 then .int .i64 (z (j / 2)) else .slice (some ⟨A (j / 2), 0, none⟩) (C (j / 2)) (C (j / 2))
theorem gcell0 (z : Nat → Int) (A C : Nat → Nat) (i : Nat) : gcell z A C (i * 2) = .int .i64 (z i) := by unfold gcell; rw [if_pos (by omega), show i * 2 / 2 = i by omega]
theorem gcell1 (z : Nat → Int) (A C : Nat → Nat) (i : Nat) : gcell z A C (i * 2 + 1) = .slice (some ⟨A i, 0, none⟩) (C i) (C i) := by unfold gcell; rw [if_neg (by omega), show (i * 2 + 1) / 2 = i by omega]
/-- graphs that a call made: the list's block is b, each graph's edges lie in blocks of their own -/
def GrsOwn (lo hi : Nat) (w : World) (b : Nat) (G : List Gr) : Prop :=
  lo ≤ b ∧ b < hi ∧ ∃ (f A : Nat → Nat), f 0 = b + 1 ∧ f G.length ≤ hi ∧ (∀ i, i < G.length → f i ≤ f (i + 1)) ∧ Blk w b (G.length * 2) (gcell (fun i => (gat G i).1) A (fun i => (gat G i).2.length)) ∧ ∀ i, i < G.length → EdgesOwn (f i) (f (i + 1)) w (some ⟨A i, 0, none⟩) (gat G i).2
theorem mono_to {f : Nat → Nat} {n : Nat} (h : ∀ i, i < n → f i ≤ f (i + 1)) : ∀ {j i : Nat}, i ≤ j → j ≤ n → f i ≤ f j
  | 0, i, hij, _ => by obtain rfl : i = 0 := by omega
                       exact Nat.le_refl _
  | j + 1, i, hij, hj => by
    by_cases e : i = j + 1
    · subst e; exact Nat.le_refl _
    · exact Nat.le_trans (mono_to h (j := j) (i := i) (by omega) (by omega)) (h j (by omega))
theorem GrsOwn.below {lo hi B b : Nat} {w w' : World} {G : List Gr} (h : GrsOwn lo hi w b G) (hb : Below B w w') (hB : hi ≤ B) : GrsOwn lo hi w' b G := by
  obtain ⟨h1, h2, f, A, e0, e1, e2, e3, e4⟩ := h
  refine ⟨h1, h2, f, A, e0, e1, e2, e3.of_block (hb.block b (by omega)), fun i hi => (e4 i hi).below hb ?_⟩
  have := mono_to e2 (i := i + 1) (j := G.length) (by omega) (Nat.le_refl _)
  omega
theorem GrsOwn.kept {lo hi b : Nat} {p : Nat → Prop} {w w' : World} {G : List Gr} (h : GrsOwn lo hi w b G) (hk : KeptP p w w') (hp : ∀ k, lo ≤ k → k < hi → ¬ p k) : GrsOwn lo hi w' b G := by
  obtain ⟨h1, h2, f, A, e0, e1, e2, e3, e4⟩ := h
  refine ⟨h1, h2, f, A, e0, e1, e2, hk.blk e3 (hp b h1 h2), fun i hi => (e4 i hi).kept hk (fun k k1 k2 => hp k ?_ ?_)⟩
  · have := mono_to e2 (i := 0) (j := i) (by omega) (by omega)
    omega
  · have := mono_to e2 (i := i + 1) (j := G.length) (by omega) (Nat.le_refl _)
    omega
theorem GrsOwn.toIn {lo hi b : Nat} {w : World} {G : List Gr} (h : GrsOwn lo hi w b G) : GrsIn lo hi w (some ⟨b, 0, none⟩) G := by
  obtain ⟨h1, h2, f, A, e0, e1, e2, e3, e4⟩ := h
  refine .inr ⟨b, 0, rfl, h1, h2, fun i hi => ⟨some ⟨A i, 0, none⟩, (gat G i).2.length, ?_, ?_, (e4 i hi).toIn.wide ?_ ?_⟩⟩
  · rw [Nat.zero_add, e3.cell (by omega), gcell0]
  · rw [Nat.zero_add, e3.cell (by omega), gcell1]
  · have := mono_to e2 (i := 0) (j := i) (by omega) (by omega)
    omega
  · have := mono_to e2 (i := i + 1) (j := G.length) (by omega) (Nat.le_refl _)
    omega

theorem Try.info26 : (Try.prog.info? 26).map (fun i => (i.zero, i.size, i.bytes)) = some (some (.agg #[.int .i64 0, .slice none 0 0]), 2, 32) := by kernel_rfl
/-- the copy, as far as graph k -/
structure GPart (w : World) (b n : Nat) (G : List Gr) (k : Nat) (f A : Nat → Nat) : Prop where
  f0 : f 0 = b + 1
  fk : f k ≤ w.heap.size
  mono : ∀ i, i < k → f i ≤ f (i + 1)
  blk : Blk w b (n * 2) (fun j => if j / 2 < k then gcell (fun i => (gat G i).1) A (fun i => (gat G i).2.length) j else if j % 2 = 0 then .int .i64 0 else .slice none 0 0)
  own : ∀ i, i < k → EdgesOwn (f i) (f (i + 1)) w (some ⟨A i, 0, none⟩) (gat G i).2
theorem GPart.below {w w' : World} {b n k : Nat} {G : List Gr} {f A : Nat → Nat} (h : GPart w b n G k f A) (hb : Below w.heap.size w w') : GPart w' b n G k f A := by
  refine ⟨h.f0, Nat.le_trans h.fk hb.size, h.mono, h.blk.of_block (hb.block b h.blk.lt), fun i hi => (h.own i hi).below hb ?_⟩
  have := mono_to h.mono (i := i + 1) (j := k) (by omega) (Nat.le_refl _)
  exact Nat.le_trans this h.fk
theorem GPart.step {wr w1 : World} {b n k g : Nat} {G : List Gr} {f A : Nat → Nat} (h : GPart wr b n G k f A) (hb : Below wr.heap.size wr w1) (hk : k < n) (ho : EdgesOwn wr.heap.size w1.heap.size w1 (some ⟨g, 0, none⟩) (gat G k).2) :
    GPart ((w1.setCell ⟨b, k * 2, none⟩ (.int .i64 (gat G k).1)).setCell ⟨b, k * 2 + 1, none⟩ (.slice (some ⟨g, 0, none⟩) (gat G k).2.length (gat G k).2.length)) b n G (k + 1) (fun i => if i ≤ k then f i else w1.heap.size) (fun i => if i = k then g else A i) := by
  have h1 := h.below hb
  have hf0 := h.f0
  have hfk := h.fk
  have hbm : b + 1 ≤ f k := by have := mono_to h.mono (i := 0) (j := k) (by omega) (Nat.le_refl _); omega
  refine ⟨?_, ?_, ?_, ?_, ?_⟩
  · show (if 0 ≤ k then f 0 else _) = _
    rw [if_pos (by omega)]; exact hf0
  · show (if k + 1 ≤ k then _ else w1.heap.size) ≤ _
    rw [if_neg (by omega)]; simp
  · intro i hi
    show (if i ≤ k then f i else w1.heap.size) ≤ (if i + 1 ≤ k then f (i + 1) else w1.heap.size)
    rw [if_pos (by omega)]
    by_cases e : i + 1 ≤ k
    · rw [if_pos e]; exact h.mono i (by omega)
    · rw [if_neg e]
      have := mono_to h.mono (i := i) (j := k) (by omega) (Nat.le_refl _)
      have := hb.size
      omega
  · refine ((h1.blk.set (k * 2) (by omega) (.int .i64 (gat G k).1)).set (k * 2 + 1) (by omega) (.slice (some ⟨g, 0, none⟩) (gat G k).2.length (gat G k).2.length)).congr fun j hj => ?_
    by_cases e1 : j = k * 2 + 1
    · subst e1
      rw [if_pos rfl, if_pos (by omega), gcell1]
      show _ = Value.slice (some ⟨if k = k then g else A k, 0, none⟩) _ _
      rw [if_pos rfl]
    · rw [if_neg e1]
      by_cases e0 : j = k * 2
      · subst e0
        rw [if_pos rfl, if_pos (by omega), gcell0]
      · rw [if_neg e0]
        by_cases e2 : j / 2 < k
        · rw [if_pos e2, if_pos (by omega)]
          unfold gcell
          dsimp only
          rw [if_neg (show ¬ j / 2 = k by omega)]
        · rw [if_neg e2, if_neg (show ¬ j / 2 < k + 1 by omega)]
  · intro i hi
    show EdgesOwn (if i ≤ k then f i else w1.heap.size) (if i + 1 ≤ k then f (i + 1) else w1.heap.size) _ (some ⟨if i = k then g else A i, 0, none⟩) _
    rw [if_pos (by omega)]
    by_cases e : i = k
    · subst e
      rw [if_neg (by omega), if_pos rfl]
      exact ((ho.wide (lo' := f i) (hi' := w1.heap.size) hfk (Nat.le_refl _)).setCell (by omega) _).setCell (by omega) _
    · rw [if_pos (by omega), if_neg e]
      have hfi := mono_to h.mono (i := 0) (j := i) (by omega) (by omega)
      exact ((h1.own i (by omega)).setCell (by omega) _).setCell (by omega) _
theorem madeG (n j : Nat) (h : j < n * 2) : (madeCells (Value.agg #[.int .i64 0, .slice none 0 0]).cells (n * 2))[j]? = some (if j % 2 = 0 then .int .i64 0 else .slice none 0 0) := by
  unfold madeCells
  rw [Array.getElem?_map, Array.getElem?_eq_getElem (by simpa using h)]
  simp only [Array.getElem_range, Option.map_some, Option.some.injEq]
  change (#[Value.int .i64 0, .slice none 0 0] : Array Value)[j % 2]! = _
  rcases (show j % 2 = 0 ∨ j % 2 = 1 by omega) with e | e <;> rw [e] <;> rfl

set_option maxHeartbeats 2000000 in
set_option maxRecDepth 100000 in
theorem toGraphs_any (hi : Nat) (a : Option Addr) (n cap : Nat) (G : List Gr) (w : World) (ha : GrsIn 0 hi w a G) (hh : hi ≤ w.heap.size) (hn : G.length = n) (hm : n ≤ 1048576) (ht : (catTo G G.length).length ≤ 1048576) :
    Calls Try.prog 6 #[.slice a n cap] w fun e w' => ∃ g : Nat, e = .returned (.slice (some ⟨g, 0, none⟩) n n) ∧ Hid (GrsOwn w.heap.size w'.heap.size w' g G) ∧ Hid (Below w.heap.size w w') := by
  have HN : Hid (G.length = n) := hn
  have HA : Hid (GrsIn 0 hi w a G) := ha
  have HH : Hid (hi ≤ w.heap.size) := hh
  have HTT : Hid ((catTo G G.length).length ≤ 1048576) := ht
  obtain ⟨i0, hi0, hz0, hz1, hz2⟩ := info_parts Try.info26
  have hmk := Go.run_make (P := Try.prog) w 29 26 i0 _ Try.underlying29 hi0 hz0 .i64 .i64 (n : Int) (n : Int) (by omega) (by omega) (by rw [hz2]; omega) (by omega)
  rw [hz1] at hmk
  obtain ⟨cs, hcs⟩ : ∃ cs, cs = madeCells (Value.agg #[.int .i64 0, .slice none 0 0]).cells ((n : Int).toNat * 2) := ⟨_, rfl⟩
  rw [← hcs, Int.toNat_natCast] at hmk
  have HZ : Hid (cs = madeCells (Value.agg #[.int .i64 0, .slice none 0 0]).cells (n * 2)) := by show _ = _; rw [hcs, Int.toNat_natCast]
  obtain ⟨B, HB⟩ : ∃ B, Hid (w.heap.size = B) := ⟨_, rfl⟩
  clear ha hn hh ht hcs hi0 hz0 hz1 hz2
  go_enter Try.func6, Try.ntmps6
  go_wp2
  rw [HB.out]
  go_loopw [4] (fun i wr => ∃ k : Nat, i = .int .i64 k ∧ k ≤ n ∧ Hid (∃ f A, GPart wr B n G k f A) ∧ Hid (Below w.heap.size w wr)) (fun i _ => n - (intOf i).toNat)
  case atStart =>
    refine ⟨0, rfl, by omega, ⟨fun _ => B + 1, fun _ => 0, rfl, by simp [HB.out], fun i hi => absurd hi (by omega), ?_, fun i hi => absurd hi (by omega)⟩, below1 _ _⟩
    have hs : cs.size = n * 2 := by rw [HZ.out, size_madeCells]
    have := blk_new w cs 26 (fun j => if j % 2 = 0 then .int .i64 0 else .slice none 0 0) (fun i hi => by rw [HZ.out]; exact madeG n i (by omega))
    rw [hs, HB.out] at this
    exact this.congr fun j hj => by rw [if_neg (show ¬ j / 2 < 0 by omega)]
  case round =>
    obtain ⟨k, rfl, hk, HP, HL⟩ := hrel
    by_cases hlt : k < n
    · have hlt1 : (k : Int) < (n : Int) := by omega
      have hlt0 : (0 : Int) ≤ (k : Int) := by omega
      have hkl : k < G.length := by rw [HN.out]; exact hlt
      obtain ⟨b, o, rfl, hb, hgk⟩ := (HA.out.below HL.out HH.out).graph hkl
      obtain ⟨ak, ck, q0, q1, hek⟩ := hgk
      have hnk : (gat G k).2.length ≤ 1048576 := by
        have h1 := catTo_le (G := G) (k := k + 1) (by omega)
        rw [catTo_step hkl, List.length_append] at h1
        have := HTT.out
        omega
      have HEK : Hid (EdgesIn 0 hi wr ak (gat G k).2) := hek
      obtain ⟨sk, HSK⟩ : ∃ sk, Hid (sk = (gat G k).1) := ⟨_, rfl⟩
      obtain ⟨nk, HNK⟩ : ∃ nk, Hid ((gat G k).2.length = nk) := ⟨_, rfl⟩
      rw [← HSK.out] at q0
      rw [HNK.out] at q1 hnk
      clear hek
      go_wp2_with fail
      refine (toGraph_any 0 hi sk ak nk ck (gat G k).2 wr HEK.out (Nat.le_trans HH.out HL.out.size) HNK.out hnk).mono ?_
      rintro e w1 ⟨g, rfl, HO1, B1⟩
      obtain ⟨f, A, hp⟩ := HP.out
      have HP0 : Hid (GPart wr B n G k f A) := hp
      have HP1 : Hid (GPart w1 B n G k f A) := hp.below B1.out
      have d0 := HP1.out.blk.cell (i := k * 2) (by omega)
      have d1 := HP1.out.blk.cell (i := k * 2 + 1) (by omega)
      have f0 := HP1.out.blk.frozen (k * 2)
      have f1 := HP1.out.blk.frozen (k * 2 + 1)
      have HB1 : Hid (Below w.heap.size w w1) := HL.out.trans (B1.out.mono HL.out.size)
      clear hp q0 q1
      go_wp2
      go_roundw
      case rel =>
        refine ⟨k + 1, by go_num, by omega, ?_, (HB1.out.setCell (p := ⟨B, k * 2, none⟩) (by show w.heap.size ≤ B; have := HB.out; omega) _).setCell (p := ⟨B, k * 2 + 1, none⟩) (by show w.heap.size ≤ B; have := HB.out; omega) _⟩
        rw [HSK.out, ← HNK.out]
        exact ⟨_, _, HP0.out.step B1.out hlt HO1.out⟩
      case measure => simp [intOf]; omega
    · obtain rfl : k = n := by omega
      have HFIN : Hid (GrsOwn w.heap.size wr.heap.size wr B G) := by
        obtain ⟨f, A, hp⟩ := HP.out
        refine ⟨by have := HB.out; omega, hp.blk.lt, f, A, hp.f0, by rw [HN.out]; exact hp.fk, by rw [HN.out]; exact hp.mono, ?_, by rw [HN.out]; exact hp.own⟩
        rw [HN.out]
        exact hp.blk.congr fun j hj => by rw [if_pos (by omega)]
      go_wp2
      go_ret
      exact ⟨B, rfl, HFIN, HL⟩

set_option maxHeartbeats 4000000 in
set_option maxRecDepth 100000 in
theorem eqGraphs_any (lo hi lo' hi' : Nat) (a a' : Option Addr) (n cap cap' : Nat) (G : List Gr) (w : World) (ha : GrsIn lo hi w a G) (hb : GrsIn lo' hi' w a' G) (hh : hi ≤ w.heap.size) (hh' : hi' ≤ w.heap.size) (hn : G.length = n) (hm : n ≤ 1048576) (ht : (catTo G G.length).length ≤ 1048576) :
    Calls Try.prog 9 #[.slice a n cap, .slice a' n cap'] w fun e w' => e = .returned (.bool true) ∧ Hid (Below w.heap.size w w') := by
  have HN : Hid (G.length = n) := hn
  have HA : Hid (GrsIn lo hi w a G ∧ hi ≤ w.heap.size) := ⟨ha, hh⟩
  have HB : Hid (GrsIn lo' hi' w a' G ∧ hi' ≤ w.heap.size) := ⟨hb, hh'⟩
  have HTT : Hid ((catTo G G.length).length ≤ 1048576) := ht
  clear ha hb hh hh' hn ht
  go_enter Try.func9, Try.ntmps9
  go_wp2
  go_loopw [5] (fun i wr => ∃ k : Nat, i = .int .i64 k ∧ k ≤ n ∧ Hid (Below w.heap.size w wr)) (fun i _ => n - (intOf i).toNat)
  case atStart => exact ⟨0, rfl, by omega, Below.refl _ _⟩
  case round =>
    obtain ⟨k, rfl, hk, HL⟩ := hrel
    by_cases hlt : k < n
    · have hlt1 : (k : Int) < (n : Int) := by omega
      have hlt0 : (0 : Int) ≤ (k : Int) := by omega
      have hkl : k < G.length := by rw [HN.out]; exact hlt
      obtain ⟨b, o, rfl, hb1, hg1⟩ := (HA.out.1.below HL.out HA.out.2).graph hkl
      obtain ⟨b', o', rfl, hb2, hg2⟩ := (HB.out.1.below HL.out HB.out.2).graph hkl
      obtain ⟨ak, ck, q0, q1, hek⟩ := hg1
      obtain ⟨ak', ck', q0', q1', hek'⟩ := hg2
      have hnk : (gat G k).2.length ≤ 1048576 := by
        have h1 := catTo_le (G := G) (k := k + 1) (by omega)
        rw [catTo_step hkl, List.length_append] at h1
        have := HTT.out
        omega
      have HEK : Hid (EdgesIn lo hi wr ak (gat G k).2) := hek
      have HEK' : Hid (EdgesIn lo' hi' wr ak' (gat G k).2) := hek'
      obtain ⟨sk, HSK⟩ : ∃ sk, Hid (sk = (gat G k).1) := ⟨_, rfl⟩
      obtain ⟨nk, HNK⟩ : ∃ nk, Hid ((gat G k).2.length = nk) := ⟨_, rfl⟩
      rw [← HSK.out] at q0 q0'
      rw [HNK.out] at q1 q1' hnk
      clear hek hek'
      have HC1 : Hid (∀ w0, Below wr.heap.size wr w0 → Calls Try.prog 8 #[gv sk ak nk ck, gv sk ak' nk ck'] w0 fun e w' => e = .returned (.bool true) ∧ Hid (Below wr.heap.size wr w') ∧ (w'.cell? ⟨b, o + k * 2, none⟩ = some (.int .i64 sk) ∧ w'.cell? ⟨b, o + k * 2 + 1, none⟩ = some (.slice ak nk ck) ∧ w'.cell? ⟨b', o' + k * 2, none⟩ = some (.int .i64 sk) ∧ w'.cell? ⟨b', o' + k * 2 + 1, none⟩ = some (.slice ak' nk ck'))) := fun w0 h =>
        (eqGraph_any lo hi lo' hi' sk sk ak ak' nk nk ck ck' (gat G k).2 (gat G k).2 true w0 (HEK.out.below h (Nat.le_trans HA.out.2 HL.out.size)) (HEK'.out.below h (Nat.le_trans HB.out.2 HL.out.size)) (Nat.le_trans HA.out.2 (Nat.le_trans HL.out.size h.size)) (Nat.le_trans HB.out.2 (Nat.le_trans HL.out.size h.size)) HNK.out HNK.out hnk (by simp)).mono fun _ w' ⟨h1, h4⟩ =>
          have h5 := h.trans (h4.out.mono h.size)
          ⟨h1, h5, cell_below q0 h5 (lt_of_cell q0), cell_below q1 h5 (lt_of_cell q1), cell_below q0' h5 (lt_of_cell q0'), cell_below q1' h5 (lt_of_cell q1')⟩
      go_wp2_with fail
      refine wp_region_held_drew (S := fun w' => w'.cell? ⟨b, o + k * 2, none⟩ = some (.int .i64 sk) ∧ w'.cell? ⟨b, o + k * 2 + 1, none⟩ = some (.slice ak nk ck) ∧ w'.cell? ⟨b', o' + k * 2, none⟩ = some (.int .i64 sk) ∧ w'.cell? ⟨b', o' + k * 2 + 1, none⟩ = some (.slice ak' nk ck')) (by kernel_rfl) ⟨q0, q1, q0', q1'⟩ (fun hHeld => ?_)
      clear q0 q1 q0' q1'
      refine wpAnyH_take (i := 0) (oi := { dst := some 17, op := Go.Op.move (Go.Operand.tmp 0), type := 29, pos := "exact.go:632", after := #[], guard := none }) (v := ?_) rfl (by kernel_rfl) (by kernel_rfl) (by kernel_rfl) (fun _ _ _ h => h) (Or.inl ⟨by kernel_rfl, ?_⟩) (by assumption) ?_
      rotate_left
      · intro w hSw; (try dsimp only at hSw); go_simp; try with_reducible rfl
      simp only [Act.put, List.setIfInBounds_toArray, List.set_cons_zero, List.set_cons_succ]
      refine wpAnyH_take (i := 1) (oi := { dst := some 18, op := Go.Op.move (Go.Operand.tmp 5), type := 3, pos := "exact.go:632", after := #[], guard := none }) (v := ?_) rfl (by kernel_rfl) (by kernel_rfl) (by kernel_rfl) (fun _ _ _ h => h) (Or.inl ⟨by kernel_rfl, ?_⟩) (by assumption) ?_
      rotate_left
      · intro w hSw; (try dsimp only at hSw); go_simp; try with_reducible rfl
      simp only [Act.put, List.setIfInBounds_toArray, List.set_cons_zero, List.set_cons_succ]
      refine wpAnyH_take (i := 2) (oi := { dst := some 19, op := Go.Op.indexAddr 29 (Go.Operand.tmp 17) (Go.Operand.tmp 18), type := 0, pos := "exact.go:632", after := #[{ on := 0, ground := Go.Ground.data }, { on := 1, ground := Go.Ground.data }], guard := none }) (v := ?_) rfl (by kernel_rfl) (by kernel_rfl) (by kernel_rfl) (fun _ _ _ h => h) (Or.inl ⟨by kernel_rfl, ?_⟩) (by assumption) ?_
      rotate_left
      · intro w hSw; (try dsimp only at hSw); go_simp; try with_reducible rfl
      simp only [Act.put, List.setIfInBounds_toArray, List.set_cons_zero, List.set_cons_succ]
      refine wpAnyH_take (i := 3) (oi := { dst := some 20, op := Go.Op.load 26 (Go.Operand.tmp 19), type := 26, pos := "exact.go:632", after := #[{ on := 2, ground := Go.Ground.data }], guard := none }) (v := ?_) rfl (by kernel_rfl) (by kernel_rfl) (by kernel_rfl) (fun _ _ _ h => h) (Or.inl ⟨by kernel_rfl, ?_⟩) (by assumption) ?_
      rotate_left
      · intro w hSw; (try dsimp only at hSw); go_simp; try with_reducible rfl
      simp only [Act.put, List.setIfInBounds_toArray, List.set_cons_zero, List.set_cons_succ]
      refine wpAnyH_take (i := 4) (oi := { dst := some 21, op := Go.Op.move (Go.Operand.tmp 1), type := 29, pos := "exact.go:632", after := #[], guard := none }) (v := ?_) rfl (by kernel_rfl) (by kernel_rfl) (by kernel_rfl) (fun _ _ _ h => h) (Or.inl ⟨by kernel_rfl, ?_⟩) (by assumption) ?_
      rotate_left
      · intro w hSw; (try dsimp only at hSw); go_simp; try with_reducible rfl
      simp only [Act.put, List.setIfInBounds_toArray, List.set_cons_zero, List.set_cons_succ]
      refine wpAnyH_take (i := 5) (oi := { dst := some 22, op := Go.Op.move (Go.Operand.tmp 5), type := 3, pos := "exact.go:632", after := #[], guard := none }) (v := ?_) rfl (by kernel_rfl) (by kernel_rfl) (by kernel_rfl) (fun _ _ _ h => h) (Or.inl ⟨by kernel_rfl, ?_⟩) (by assumption) ?_
      rotate_left
      · intro w hSw; (try dsimp only at hSw); go_simp; try with_reducible rfl
      simp only [Act.put, List.setIfInBounds_toArray, List.set_cons_zero, List.set_cons_succ]
      refine wpAnyH_take (i := 6) (oi := { dst := some 23, op := Go.Op.indexAddr 29 (Go.Operand.tmp 21) (Go.Operand.tmp 22), type := 0, pos := "exact.go:632", after := #[{ on := 4, ground := Go.Ground.data }, { on := 5, ground := Go.Ground.data }], guard := none }) (v := ?_) rfl (by kernel_rfl) (by kernel_rfl) (by kernel_rfl) (fun _ _ _ h => h) (Or.inl ⟨by kernel_rfl, ?_⟩) (by assumption) ?_
      rotate_left
      · intro w hSw; (try dsimp only at hSw); go_simp; try with_reducible rfl
      simp only [Act.put, List.setIfInBounds_toArray, List.set_cons_zero, List.set_cons_succ]
      refine wpAnyH_take (i := 7) (oi := { dst := some 24, op := Go.Op.load 26 (Go.Operand.tmp 23), type := 26, pos := "exact.go:632", after := #[{ on := 6, ground := Go.Ground.data }], guard := none }) (v := ?_) rfl (by kernel_rfl) (by kernel_rfl) (by kernel_rfl) (fun _ _ _ h => h) (Or.inl ⟨by kernel_rfl, ?_⟩) (by assumption) ?_
      rotate_left
      · intro w hSw; (try dsimp only at hSw); go_simp; try with_reducible rfl
      simp only [Act.put, List.setIfInBounds_toArray, List.set_cons_zero, List.set_cons_succ]
      refine wpAnyH_ready (rs := [8]) (by kernel_rfl) (by simp) ?_
      refine AllReadyH.cons (o := { dst := some 25, op := Go.Op.call { callee := Go.Callee.value (Go.Operand.func 8), args := #[Go.Operand.tmp 20, Go.Operand.tmp 24], argTypes := #[26, 26] }, type := 4, pos := "exact.go:632", after := #[{ on := 3, ground := Go.Ground.data }, { on := 7, ground := Go.Ground.data }], guard := none }) rfl (fun K hK => ?_) ?_
      · go_simp
        go_wp2_with (go_at_call 8; refine (HC1.out _ ((Below.refl _ _).drew)).mono ?_; rintro e w3 ⟨rfl, B3, hk3⟩)
        refine hK.out _ _ hk3 (fun hHeld => ?_)
        clear hK K
        try simp only [Act.put, List.setIfInBounds_toArray, List.set_cons_zero, List.set_cons_succ]
        refine wpAnyH_take (i := 9) (oi := { dst := some 26, op := Go.Op.unOp Go.UnOp.not 4 (Go.Operand.tmp 25), type := 4, pos := "exact.go:632", after := #[{ on := 8, ground := Go.Ground.data }], guard := none }) (v := ?_) rfl (by kernel_rfl) (by kernel_rfl) (by kernel_rfl) (fun _ _ _ h => h) (Or.inl ⟨by kernel_rfl, ?_⟩) (by assumption) ?_
        rotate_left
        · intro w hSw; (try dsimp only at hSw); go_simp; try with_reducible rfl
        simp only [Act.put, List.setIfInBounds_toArray, List.set_cons_zero, List.set_cons_succ]
        refine wpAnyH_done (by kernel_rfl) ?_ _
        clear hHeld hk3
        go_wp2
        go_roundw
        case rel => exact ⟨k + 1, by go_num, by omega, HL.out.trans (B3.out.mono HL.out.size)⟩
        case measure => simp [intOf]; omega
      exact AllReadyH.nil

    · obtain rfl : k = n := by omega
      go_wp2
      go_ret
      exact ⟨rfl, HL⟩

/-- what is left to be marked, from graph k on -/
structure GMark (w : World) (b n : Nat) (G : List Gr) (k : Nat) (f A : Nat → Nat) : Prop where
  blk : ∃ z : Nat → Int, Blk w b (n * 2) (gcell z A (fun i => (gat G i).2.length))
  own : ∀ i, k ≤ i → i < n → EdgesOwn (f i) (f (i + 1)) w (some ⟨A i, 0, none⟩) (gat G i).2
set_option maxHeartbeats 4000000 in
set_option maxRecDepth 100000 in
theorem markGraphs_any (lo hi : Nat) (b n cap : Nat) (G : List Gr) (w : World) (ha : GrsOwn lo hi w b G) (hn : G.length = n) (hm : n ≤ 1048576) (ht : (catTo G G.length).length ≤ 1048576) :
    Calls Try.prog 10 #[.slice (some ⟨b, 0, none⟩) n cap, .int .i64 1] w fun e w' => ∃ m : Nat, e = .returned (.int .i64 (m : Int)) ∧ Hid (KeptP (fun c => lo ≤ c ∧ c < hi) w w') := by
  have HN : Hid (G.length = n) := hn
  have HTT : Hid ((catTo G G.length).length ≤ 1048576) := ht
  subst hn
  obtain ⟨h1, h2, f, A, e0, e1, e2, e3, e4⟩ := ha
  obtain ⟨n, hn⟩ : ∃ n, G.length = n := ⟨_, rfl⟩
  rw [hn] at e1 e2 e3 e4 hm HTT ⊢
  have HF : Hid (f 0 = b + 1 ∧ f n ≤ hi ∧ (∀ i, i < n → f i ≤ f (i + 1)) ∧ lo ≤ b) := ⟨e0, e1, e2, h1⟩
  have HG0 : Hid (GMark w b n G 0 f A) := ⟨⟨_, e3⟩, fun i _ hi => e4 i hi⟩
  have HG : Hid (G.length = n) := hn
  clear hn e0 e1 e2 e3 e4 h1 HN ht
  go_enter Try.func10, Try.ntmps10
  go_wp2
  go_loopw [5, 1] (fun i v wr => ∃ k K : Nat, i = .int .i64 k ∧ v = .int .i64 (K : Int) ∧ k ≤ n ∧ Hid (K ≤ 1 + k + 3 * (catTo G k).length) ∧ Hid (GMark wr b n G k f A) ∧ Hid (KeptP (fun c => lo ≤ c ∧ c < hi) w wr)) (fun i _ _ => n - (intOf i).toNat)
  case atStart => exact ⟨0, 1, rfl, rfl, by omega, by show _ ≤ _; omega, HG0, KeptP.refl _ _⟩
  case round =>
    obtain ⟨k, K, rfl, rfl, hk, HKB, HM, HKP⟩ := hrel
    by_cases hlt : k < n
    · have hlt1 : (k : Int) < (n : Int) := by omega
      have hlt0 : (0 : Int) ≤ (k : Int) := by omega
      have hkl : k < G.length := by rw [HG.out]; exact hlt
      have hct := catTo_le (G := G) (k := k + 1) (by omega)
      have HST : Hid (catTo G (k + 1) = catTo G k ++ (gat G k).2) := catTo_step hkl
      have hK : K ≤ 8388608 := by
        rw [HST.out, List.length_append] at hct
        have := HTT.out; have := HKB.out; rw [HG.out] at hct; omega
      obtain ⟨z, hblk⟩ := HM.out.blk
      have HBK : Hid (Blk wr b (n * 2) (gcell z A (fun i => (gat G i).2.length))) := hblk
      obtain ⟨nk, HNK⟩ : ∃ nk, Hid ((gat G k).2.length = nk) := ⟨_, rfl⟩
      have hnk : nk ≤ 1048576 := by
        rw [HST.out, List.length_append, HNK.out] at hct
        have := HTT.out; rw [HG.out] at hct; omega
      have d0 := HBK.out.cell (i := k * 2) (by omega)
      have d1 := HBK.out.cell (i := k * 2 + 1) (by omega)
      rw [gcell0] at d0
      rw [gcell1, HNK.out] at d1
      have f0 := HBK.out.frozen (k * 2)
      have HFK : Hid (b + 1 ≤ f k ∧ f k ≤ f (k + 1) ∧ f (k + 1) ≤ hi) := by
        obtain ⟨g0, g1, g2, _⟩ := HF.out
        have k1 := mono_to g2 (i := 0) (j := k) (by omega) (by omega)
        have k2 := mono_to g2 (i := k + 1) (j := n) (by omega) (Nat.le_refl _)
        exact ⟨by omega, g2 k hlt, by omega⟩
      obtain ⟨W, HW⟩ : ∃ W, Hid (W = wr.setCell ⟨b, k * 2, none⟩ (.int .i64 (K : Int))) := ⟨_, rfl⟩
      have HBW : Hid (∃ z', Blk W b (n * 2) (gcell z' A (fun i => (gat G i).2.length))) := by
        refine ⟨fun i => if i = k then (K : Int) else z i, ?_⟩
        rw [HW.out]
        refine (HBK.out.set (k * 2) (by omega) (.int .i64 (K : Int))).congr fun j hj => ?_
        by_cases e : j = k * 2
        · subst e; rw [if_pos rfl, gcell0, if_pos rfl]
        · rw [if_neg e]
          unfold gcell
          by_cases e2 : j % 2 = 0
          · rw [if_pos e2, if_pos e2]
            dsimp only
            rw [if_neg (show ¬ j / 2 = k by omega)]
          · rw [if_neg e2, if_neg e2]
      have HOW : Hid (∀ i, k ≤ i → i < n → EdgesOwn (f i) (f (i + 1)) W (some ⟨A i, 0, none⟩) (gat G i).2) := by
        intro i hi1 hi2
        rw [HW.out]
        refine (HM.out.own i hi1 hi2).setCell ?_ _
        have := mono_to HF.out.2.2.1 (i := k) (j := i) hi1 (by omega)
        have := HFK.out.1
        omega
      have HKW : Hid (KeptP (fun c => lo ≤ c ∧ c < hi) w W) := by
        rw [HW.out]
        refine HKP.out.setCell ?_ _
        have := HF.out.2.2.2
        have := HFK.out
        exact ⟨by omega, by omega⟩
      have d1w : W.cell? ⟨b, k * 2 + 1, none⟩ = some (.slice (some ⟨A k, 0, none⟩) nk nk) := by
        obtain ⟨z', hz⟩ := HBW.out
        rw [hz.cell (by omega), gcell1, HNK.out]
      go_upto_region 6 with fail
      rw [← HW.out]
      clear d0 d1 f0 hblk HW HBK HM HKP
      go_wp2_with fail
      refine (markEdges_any (f k) (f (k + 1)) (some ⟨A k, 0, none⟩) nk nk (K + 1) (gat G k).2 W (HOW.out k (Nat.le_refl _) hlt) HNK.out hnk (by omega)).mono ?_
      rintro e w3 ⟨rfl, _, HK3⟩
      obtain ⟨K3, HK3E⟩ : ∃ K3 : Nat, Hid (K3 = K + 1 + nk * 3) := ⟨_, rfl⟩
      rw [← HK3E.out]
      have hK3 : K3 ≤ 16777216 := by have := HK3E.out; omega
      go_wp2
      go_roundw
      case rel =>
        refine ⟨k + 1, K3, by go_num, rfl, by omega, ?_, ⟨?_, fun i hi1 hi2 => ?_⟩, HKW.out.trans (HK3.out.mono (fun c hc => ?_))⟩
        · show _ ≤ _
          rw [HST.out, List.length_append, HNK.out, HK3E.out]
          have := HKB.out
          omega
        · obtain ⟨z', hz⟩ := HBW.out
          exact ⟨z', HK3.out.blk hz (by have := HFK.out; omega)⟩
        · refine (HOW.out i (by omega) hi2).kept HK3.out (fun c c1 c2 c3 => ?_)
          have := mono_to HF.out.2.2.1 (i := k + 1) (j := i) hi1 (by omega)
          omega
        · have := HFK.out
          have := HF.out.2.2.2
          exact ⟨by omega, by omega⟩
      case measure => simp [intOf]; omega
    · obtain rfl : k = n := by omega
      go_wp2
      go_ret
      exact ⟨K, rfl, HKP⟩

open Go.ChangeShapes Go.WideShapes Go.ChangeAt Go.Deep in
set_option maxRecDepth 100000 in
/-- graphs that came in, out of their reading -/
theorem graphs_in {H : Type} {enc : TypeId × Value → H} {W : World} {v : Value} {d : DataW H} {ps : List MemPlace} (hv : ∃ ao n cap, v = .slice ao n cap)
    (h : DataW.Trod enc Try.prog W 0 (fun _ => true) true 22 v d ps) : ∃ (ao : Option Addr) (n cap : Nat) (G : List Gr), v = .slice ao n cap ∧ n ≤ maxLen ∧ G.length = n ∧ GrsIn 0 W.heap.size W ao G ∧ ∀ i, i < n → (gat G i).2.length ≤ maxLen := by
  obtain ⟨ao, n, cap, rfl⟩ := hv
  obtain ⟨fuel, hf⟩ := h
  rcases open_slice Try.underlying22 hf with ⟨hcs, _⟩ | ⟨a, len, cap2, m, k, D, Pl, hcs, _, hl, hm, hmm, _, hx⟩
  · simp [Value.cells] at hcs
    obtain ⟨rfl, rfl, rfl⟩ := hcs
    exact ⟨none, 0, 0, [], rfl, Nat.zero_le _, rfl, .inl rfl, fun i hi => absurd hi (by omega)⟩
  · simp [Value.cells] at hcs
    obtain ⟨rfl, rfl, rfl⟩ := hcs
    have ce : Try.prog.cellsOf 39 = 2 := by kernel_rfl
    have hlm : n ≤ m := by rw [hmm]; simp; exact hl
    have each : ∀ i, i < n → ∃ q : Gr, q.2.length ≤ maxLen ∧ ∃ (ai : Option Addr) (ci : Nat), W.cell? (a.add (i * 2)) = some (.int .i64 q.1) ∧ W.cell? (a.add (i * 2 + 1)) = some (.slice ai q.2.length ci) ∧ EdgesIn 0 W.heap.size W ai q.2 := by
      intro i hi
      obtain ⟨cs', h1, h2⟩ := hx i (by omega)
      rw [ce] at h1
      obtain ⟨_, hlen, hcell⟩ := World.cells?_some h1
      obtain ⟨y0, y1, k2, _, _, g0, g1⟩ := trod_struct2 Try.underlying39 h2
      match cs', hlen with
      | [v0, v1], _ =>
        have c3 : Try.prog.cellsOf 3 = 1 := by kernel_rfl
        have c37 : Try.prog.cellsOf 37 = 1 := by kernel_rfl
        simp only [c3, c37, List.drop_zero, List.drop_succ_cons, List.take_succ_cons, List.take_zero] at g0 g1
        obtain ⟨z0, q0, _, _⟩ := DataW.trod_int Try.underlying3 g0
        obtain ⟨ai, ni, ci, li, q1, hni, hli, hei⟩ := edges_trod g1
        simp at q0
        have p0 := hcell 0 (by omega)
        have p1 := hcell 1 (by omega)
        rw [add_add] at p0 p1
        subst q0 q1
        exact ⟨(z0, li), by rw [hli]; exact hni, ai, ci, by simpa using p0, by simpa [hli] using p1, hei⟩
    obtain ⟨f, hfn⟩ := choose_lt each
    have hgd : ∀ i, i < n → gat ((List.range n).map f) i = f i := fun i hi => by simp [gat, List.getD, hi]
    refine ⟨some a, n, cap, (List.range n).map f, rfl, by omega, by simp, ?_, fun i hi => by rw [hgd i hi]; exact (hfn i hi).1⟩
    by_cases h0 : n = 0
    · exact .inl (by subst h0; rfl)
    · obtain ⟨b, off, spot⟩ := a
      obtain ⟨_, ai, ci, c0, _, _⟩ := hfn 0 (by omega)
      obtain rfl := spot_none (by simpa using c0)
      rw [add_none] at c0
      refine .inr ⟨b, off, rfl, Nat.zero_le _, lt_of_cell c0, fun i hi => ?_⟩
      simp at hi
      obtain ⟨_, ai, ci, c0, c1, c2⟩ := hfn i hi
      rw [add_none] at c0 c1
      rw [hgd i hi]
      exact ⟨ai, ci, c0, by rw [Nat.add_assoc]; exact c1, c2⟩
end Go.Proofs.Ytigojleieihdoaa
