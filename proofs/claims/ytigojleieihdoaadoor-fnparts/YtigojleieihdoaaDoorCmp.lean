/-
  Edges that stand side by side and are the same are one: slices.Compact over edges.
-/
import Derived.Test.YtigojleieihdoaaDoorGIdx
import Derived.Test.YtigojleieihdoaaDoorGCln
import Derived.Lib.SliceRun
import Derived.Laws.IdiomCopy
namespace Go.Proofs.YtigojleieihdoaaDoor
open Go.RowKit

/-- as far as place k, each that is as the one ahead of it left out -/
def dedTo (L : List Ed) (k : Nat) : List Ed := ((List.range k).filter (fun (i : Nat) => decide (i = 0 ∨ eat L i ≠ eat L (i - 1)))).map (eat L)
theorem dedTo_step (L : List Ed) (k : Nat) : dedTo L (k + 1) = dedTo L k ++ (if k = 0 ∨ eat L k ≠ eat L (k - 1) then [eat L k] else []) := by
  unfold dedTo
  rw [List.range_succ, List.filter_append, List.map_append]
  by_cases h : k = 0 ∨ eat L k ≠ eat L (k - 1)
  · rw [if_pos h]; simp [h]
  · rw [if_neg h]; simp [h]
theorem dedTo_yes {L : List Ed} {k : Nat} (h : eat L k ≠ eat L (k - 1)) : dedTo L (k + 1) = dedTo L k ++ [eat L k] := by rw [dedTo_step, if_pos (Or.inr h)]
theorem dedTo_no {L : List Ed} {k : Nat} (h0 : k ≠ 0) (h : eat L k = eat L (k - 1)) : dedTo L (k + 1) = dedTo L k := by rw [dedTo_step, if_neg (by rintro (e | e); exact h0 e; exact e h)]; simp
theorem dedTo_all {L : List Ed} : ∀ {k : Nat}, (∀ i, 1 ≤ i → i < k → eat L i ≠ eat L (i - 1)) → k ≤ L.length → dedTo L k = L.take k
  | 0, _, _ => rfl
  | k + 1, h, hk => by
    rw [dedTo_step, dedTo_all (fun i h1 h2 => h i h1 (by omega)) (by omega), if_pos (by
      by_cases e : k = 0
      · exact .inl e
      · exact .inr (h k (by omega) (by omega))), take_snocE L (by omega)]
def dedL (L : List Ed) : List Ed := dedTo L L.length
theorem dedTo_mem {L : List Ed} {x : Ed} : ∀ {k : Nat}, x ∈ dedTo L k ↔ ∃ i, i < k ∧ eat L i = x
  | 0 => by simp [dedTo]
  | k + 1 => by
    rw [dedTo_step, List.mem_append, dedTo_mem (k := k)]
    constructor
    · rintro (⟨i, h1, h2⟩ | h)
      · exact ⟨i, by omega, h2⟩
      · split at h
        · simp at h; exact ⟨k, by omega, h.symm⟩
        · simp at h
    · rintro ⟨i, h1, h2⟩
      by_cases e : i = k
      · subst e
        by_cases h : i = 0 ∨ eat L i ≠ eat L (i - 1)
        · right; rw [if_pos h, h2]; simp
        · left
          have h3 := not_or.1 h
          refine ⟨i - 1, by omega, ?_⟩
          rw [← h2]
          exact (Decidable.not_not.1 h3.2).symm
      · exact .inl ⟨i, by omega, h2⟩
theorem eat_mem {L : List Ed} {i : Nat} (h : i < L.length) : eat L i ∈ L := by rw [eat_get h]; exact List.getElem_mem h
theorem dedL_mem {L : List Ed} {x : Ed} : x ∈ dedL L ↔ x ∈ L := by
  unfold dedL
  rw [dedTo_mem]
  constructor
  · rintro ⟨i, h1, rfl⟩; exact eat_mem h1
  · intro h
    obtain ⟨i, hi, e⟩ := List.getElem_of_mem h
    exact ⟨i, hi, by rw [eat_get hi, e]⟩
theorem weak_at {L : List Ed} (h : L.Pairwise fun x y => ltE y x = false) {i j : Nat} (hij : i ≤ j) (hj : j < L.length) : ltE (eat L j) (eat L i) = false := by
  by_cases e : i = j
  · subst e; exact ltE_irrefl _
  · rw [eat_get hj, eat_get (show i < L.length by omega)]
    exact List.pairwise_iff_getElem.1 h i j (by omega) hj (by omega)
theorem dedTo_srt {L : List Ed} (h : L.Pairwise fun x y => ltE y x = false) : ∀ {k : Nat}, k ≤ L.length → SrtE (dedTo L k)
  | 0, _ => List.Pairwise.nil
  | k + 1, hk => by
    rw [dedTo_step]
    refine List.pairwise_append.2 ⟨dedTo_srt h (by omega), ?_, fun x hx y hy => ?_⟩
    · split
      · exact List.pairwise_singleton _ _
      · exact List.Pairwise.nil
    · split at hy
      · rename_i hc
        simp at hy
        subst hy
        obtain ⟨i, hi, rfl⟩ := dedTo_mem.1 hx
        have hne : eat L k ≠ eat L i := by
          intro e
          have hk1 : eat L k ≠ eat L (k - 1) := by
            rcases hc with h0 | h0
            · omega
            · exact h0
          have h1 := weak_at h (show i ≤ k - 1 by omega) (show k - 1 < L.length by omega)
          have h2 := weak_at h (show k - 1 ≤ k by omega) (show k < L.length by omega)
          rw [← e] at h1
          rcases ltE_or (eat L k) (eat L (k - 1)) with h3 | h3 | h3
          · rw [h2] at h3; cases h3
          · exact hk1 h3
          · rw [h1] at h3; cases h3
        exact ltE_total hne (weak_at h (Nat.le_of_lt hi) (by omega))
      · simp at hy
theorem dedL_srt {L : List Ed} (h : L.Pairwise fun x y => ltE y x = false) : SrtE (dedL L) := dedTo_srt h (Nat.le_refl _)
theorem dedTo_len (L : List Ed) : ∀ k, (dedTo L k).length ≤ k
  | 0 => by simp [dedTo]
  | k + 1 => by
    rw [dedTo_step, List.length_append]
    have := dedTo_len L k
    split
    · simp; omega
    · simp; omega

theorem KeptP.drews {p : Nat → Prop} {w w1 : World} (h : KeptP p w w1) (q : Nat) : KeptP p w (w1.drewN q) := ⟨h.os, h.tape, h.output, h.size, h.block⟩
theorem EBlk.drews {w : World} {b : Nat} {l : List Ed} (h : EBlk w b l) (q : Nat) : EBlk (w.drewN q) b l := Blk.of_block h rfl

open Go.Lib in
/-- 'clear(s)' of elements of several cells -/
theorem run_clear_cells {P : Program} (w : World) (t e ty : TypeId) (z : Value) (ht : P.underlying t = some (.slice e)) (hv : ∀ w, (zeroValue e).run P w = .ok z w) (b o n c : Nat) (hn : 0 < n)
    (hc : ∀ j, j < (Builtin.zeroCells z.cells n).toList.length → (w.cell? ⟨b, o + j, none⟩).isSome = true) (hf : ∀ j, j < (Builtin.zeroCells z.cells n).toList.length → w.frozen? ⟨b, o + j, none⟩ = false) (h1 : ∀ v ∈ (Builtin.zeroCells z.cells n).toList, v.oneCell' = true) :
    (Builtin.clear_ #[t] ty #[.slice (some ⟨b, o, none⟩) n c]).run P w = .ok (.tuple #[]) (w.setCells b o (Builtin.zeroCells z.cells n).toList) := by
  have hst := run_storeCells_cells (P := P) b o (Builtin.zeroCells z.cells n).toList 0 w (by simpa using hc) (by simpa using hf) h1
  simp only [Nat.add_zero] at hst
  obtain ⟨m, rfl⟩ : ∃ m, n = m + 1 := ⟨n - 1, by omega⟩
  simp [Builtin.clear_, run_underlying ht, hv, hst]
theorem Blk.setOut {w : World} {b m o : Nat} {f : Nat → Value} (h : Blk w b m f) (ho : m ≤ o) (v : Value) : Blk (w.setCell ⟨b, o, none⟩ v) b m f := by
  obtain ⟨c, t, hb, hc⟩ := h
  refine ⟨c.setIfInBounds o v, t, ?_, fun j hj => ?_⟩
  · simp [World.setCell, Array.getElem?_modify, hb]
  · rw [Array.getElem?_setIfInBounds, if_neg (by omega)]
    exact hc j hj
theorem Blk.setCells {b m : Nat} {f : Nat → Value} : ∀ (vs : List Value) (o : Nat) {w : World}, Blk w b m f → m ≤ o → Blk (w.setCells b o vs) b m f
  | [], _, _, h, _ => h
  | v :: r, o, _, h, ho => Blk.setCells r (o + 1) (h.setOut ho v) (by omega)
theorem KeptP.setCells {p : Nat → Prop} {g : Nat} (hg : p g) {w : World} : ∀ (vs : List Value) (o : Nat) {w1 : World}, KeptP p w w1 → KeptP p w (w1.setCells g o vs)
  | [], _, _, h => h
  | v :: r, o, _, h => KeptP.setCells hg r (o + 1) (h.setCell hg v)
theorem zero_len (n : Nat) : (Builtin.zeroCells (Value.agg #[.int .i64 0, .int .u8 0, .int .i64 0]).cells n).toList.length = n * 3 := by simp [Builtin.zeroCells, Value.cells]
theorem zero_one (n : Nat) : ∀ v ∈ (Builtin.zeroCells (Value.agg #[.int .i64 0, .int .u8 0, .int .i64 0]).cells n).toList, v.oneCell' = true := by
  intro v hv
  simp only [Builtin.zeroCells, Value.cells, Array.toList_map, List.mem_map] at hv
  obtain ⟨i, _, rfl⟩ := hv
  change (#[Value.int .i64 0, .int .u8 0, .int .i64 0] : Array Value)[i % 3]!.oneCell' = true
  rcases (show i % 3 = 0 ∨ i % 3 = 1 ∨ i % 3 = 2 by omega) with e | e | e <;> rw [e] <;> rfl
theorem ezero : ∀ w, (zeroValue 37).run Tryd.prog w = .ok (.agg #[.int .i64 0, .int .u8 0, .int .i64 0]) w := Tryd.zeroValue37
theorem eql_drop {l : List Ed} {q : Nat} {D : List Ed} (hq : D.length = q) (hl : q ≤ l.length) (h : ∀ j, j < q → eat l j = eat D j) : l.take q = D :=
  eat_ext (by rw [List.length_take]; omega) (fun i hi => by
    rw [List.length_take] at hi
    rw [show eat (l.take q) i = eat l i by simp [eat, List.getD, show i < q by omega]]
    exact h i (by omega))
theorem EBlk.take {w : World} {b : Nat} {l : List Ed} (h : EBlk w b l) (q : Nat) (hq : q ≤ l.length) : EBlk w b (l.take q) := by
  obtain ⟨c, t, hb, hc⟩ := h
  refine ⟨c, t, hb, fun i hi => ?_⟩
  rw [List.length_take] at hi
  rw [hc i (by omega)]
  unfold ef
  have : eat (l.take q) (i / 3) = eat l (i / 3) := by simp [eat, List.getD, show i / 3 < q by omega]
  rw [this]

set_option maxRecDepth 100000 in
theorem neq_edges (x0 x1 x2 y0 y1 y2 : Int) (q : Bool) (w : World) (hq : q = decide ((x0, x1, x2) ≠ ((y0, y1, y2) : Ed))) : (binOp .neq 37 (.agg #[.int .i64 x0, .int .u8 x1, .int .i64 x2]) (.agg #[.int .i64 y0, .int .u8 y1, .int .i64 y2])).run Tryd.prog w = .ok (.bool q) w := by
  have u3 := Tryd.underlying3
  have a3 := Tryd.isAgg3
  have z3 := Tryd.sizeOf3
  have u5 := Tryd.underlying5
  have a5 := Tryd.isAgg5
  have z5 := Tryd.sizeOf5
  have hS : Tryd.prog.underlying 37 = some (.struct (Tryd.prog.fieldsOf 37)) := by kernel_rfl
  have hp : Tryd.prog.stoodInHeld 37 = false := by kernel_rfl
  rw [run_neq_struct, show (10000 : Nat) = 9999 + 1 from rfl, run_equalIn_agg w 9999 37 _ _ hS hp]
  simp only [Program.fieldsOf, Tryd.underlying37]
  rw [hq]
  go_simp
  by_cases h1 : x0 = y0 <;> by_cases h2 : x1 = y1 <;> by_cases h3 : x2 = y2 <;> simp [h1, h2, h3]

/-- behind place p of the edges: the first q of the block are those that stay, from p - 1 on all are as they were -/
structure CI (w : World) (g : Nat) (L : List Ed) (n q p : Nat) : Prop where
  len : (dedTo L p).length = q
  lt : q + 1 ≤ p ∧ p ≤ n
  blk : ∃ C : List Ed, C.length = n ∧ EBlk w g C ∧ (∀ j, j < q → eat C j = eat (dedTo L p) j) ∧ ∀ j, p ≤ j + 1 → j < n → eat C j = eat L j
theorem CI.drews {w : World} {g n q p : Nat} {L : List Ed} (h : CI w g L n q p) (r : Nat) : CI (w.drewN r) g L n q p := by
  obtain ⟨C, h1, h2, h3⟩ := h.blk
  exact ⟨h.len, h.lt, C, h1, h2.drews r, h3⟩
theorem CI.start {w : World} {g n k : Nat} {L : List Ed} (h : EBlk w g L) (hn : L.length = n) (hk : k < n) (h1 : dedTo L (k + 1) = L.take k) : CI w g L n k (k + 1) := by
  refine ⟨by rw [h1, List.length_take]; omega, by omega, L, hn, h, fun j hj => ?_, fun j _ _ => rfl⟩
  rw [h1]
  simp [eat, List.getD, hj]
theorem CI.skip {w : World} {g n q p : Nat} {L : List Ed} (h : CI w g L n q p) (hp : p < n) (he : eat L p = eat L (p - 1)) : CI w g L n q (p + 1) := by
  have h0 : p ≠ 0 := by have := h.lt; omega
  obtain ⟨C, h1, h2, h3, h4⟩ := h.blk
  rw [← dedTo_no h0 he] at h3
  exact ⟨by rw [dedTo_no h0 he]; exact h.len, by have := h.lt; omega, C, h1, h2, h3, fun j h5 h6 => h4 j (by omega) h6⟩
theorem CI.keep {w : World} {g n q p : Nat} {L : List Ed} (h : CI w g L n q p) (hp : p < n) (he : eat L p ≠ eat L (p - 1)) (x : Ed) (hx : x = eat L p) :
    CI (((w.setCell ⟨g, q * 3, none⟩ (.int .i64 x.1)).setCell ⟨g, q * 3 + 1, none⟩ (.int .u8 x.2.1)).setCell ⟨g, q * 3 + 2, none⟩ (.int .i64 x.2.2)) g L n (q + 1) (p + 1) := by
  obtain ⟨C, h1, h2, h3, h4⟩ := h.blk
  have hq := h.lt
  have hl := h.len
  refine ⟨by rw [dedTo_yes he, List.length_append, hl]; rfl, by omega, C.set q x, by rw [List.length_set]; exact h1, h2.put (by omega) x, fun j hj => ?_, fun j h5 h6 => ?_⟩
  · rw [eat_set (by omega), dedTo_yes he]
    by_cases e : j = q
    · subst e; rw [if_pos rfl, hx]
      have := eat_last (dedTo L p) (eat L p)
      rw [hl] at this
      exact this.symm
    · rw [if_neg e, eat_app (by omega)]
      exact h3 j (by omega)
  · rw [eat_set (by omega), if_neg (by omega)]
    exact h4 j (by omega) h6
theorem CI.edge {w : World} {g n q p j : Nat} {L : List Ed} (h : CI w g L n q p) (h1 : p ≤ j + 1) (h2 : j < n) : EdgeAt w g (j * 3) (eat L j) := by
  obtain ⟨C, e1, e2, _, e4⟩ := h.blk
  rw [← e4 j h1 h2]
  exact e2.edge (by omega)
theorem CI.slot {w : World} {g n q p : Nat} {L : List Ed} (h : CI w g L n q p) : (∃ x : Ed, EdgeAt w g (q * 3) x) ∧ ∀ j, w.frozen? ⟨g, j, none⟩ = false := by
  obtain ⟨C, e1, e2, _, _⟩ := h.blk
  exact ⟨⟨_, e2.edge (k := q) (by have := h.lt; omega)⟩, fun j => Blk.frozen e2 j⟩
theorem CI.done {w : World} {g n q : Nat} {L : List Ed} (h : CI w g L n q n) (hn : L.length = n) (vs : List Value) : EBlk (w.setCells g (q * 3) vs) g (dedL L) := by
  obtain ⟨C, e1, e2, e3, _⟩ := h.blk
  have hq := h.lt
  unfold dedL
  rw [hn, ← eql_drop (l := C) h.len (by omega) e3]
  refine Blk.setCells vs (q * 3) (e2.take q (by omega)) ?_
  rw [List.length_take]; omega
theorem CI.cells {w : World} {g n q : Nat} {L : List Ed} (h : CI w g L n q n) : ∀ j, j < (Builtin.zeroCells (Value.agg #[.int .i64 0, .int .u8 0, .int .i64 0]).cells (n - q)).toList.length → (w.cell? ⟨g, q * 3 + j, none⟩).isSome = true := by
  intro j hj
  rw [zero_len] at hj
  obtain ⟨C, e1, e2, _, _⟩ := h.blk
  have hq := h.lt
  rw [Blk.cell e2 (by omega)]; rfl

set_option maxHeartbeats 4000000 in
set_option maxRecDepth 100000 in
theorem compactE_any (g n cap : Nat) (L : List Ed) (w : World) (hblk : EBlk w g L) (hn : L.length = n) (hm : n ≤ 1048576) (hcap : n ≤ cap) :
    Calls Tryd.prog 45 #[.slice (some ⟨g, 0, none⟩) n cap] w fun e w' => ∃ m : Nat, e = .returned (.slice (some ⟨g, 0, none⟩) m cap) ∧ Hid ((dedL L).length = m) ∧ Hid (EBlk w' g (dedL L)) ∧ Hid (KeptP (fun c => c = g) w w') := by
  have HN : Hid (L.length = n) := hn
  have HB : Hid (EBlk w g L) := hblk
  clear hblk hn
  by_cases h2 : n < 2
  · have HD : Hid (dedL L = L) := by
      show _ = _
      unfold dedL
      rw [dedTo_all (fun i h1 h2 => by have := HN.out; omega) (Nat.le_refl _), List.take_length]
    have hd : decide ((n : Int) < 2) = true := by simp; omega
    go_enter Tryd.func45, Tryd.ntmps45
    go_wp2
    go_ret
    exact ⟨n, rfl, by rw [HD.out]; exact HN, by rw [HD.out]; exact HB, KeptP.refl _ _⟩
  have hd : decide ((n : Int) < 2) = false := by simp; omega
  go_enter Tryd.func45, Tryd.ntmps45
  go_wp2
  go_loopw [3] (fun i wr => ∃ k : Nat, i = .int .i64 k ∧ 1 ≤ k ∧ k ≤ n ∧ Hid (∀ i, 1 ≤ i → i < k → eat L i ≠ eat L (i - 1)) ∧ Hid (EBlk wr g L) ∧ Hid (KeptP (fun c => c = g) w wr)) (fun i _ => n - (intOf i).toNat)
  case atStart => exact ⟨1, rfl, by omega, by omega, fun i h1 h2 => absurd h1 (by omega), HB, KeptP.refl _ _⟩
  case round =>
    obtain ⟨k, rfl, hk1, hk, HD, HBR, HK⟩ := hrel
    by_cases hlt : k < n
    · have hlt1 : (k : Int) < (n : Int) := by omega
      have hlt0 : (0 : Int) ≤ (k : Int) := by omega
      obtain ⟨m, hm1⟩ : ∃ m, k = m + 1 := ⟨k - 1, by omega⟩
      have hsub : (k : Int) - 1 = (m : Int) := by omega
      have hsubw : IntKind.i64.wrap ((k : Int) - 1) = (m : Int) := by rw [hsub]; simp [IntKind.wrap, IntKind.bits, IntKind.signed]; omega
      have hml : (m : Int) < (n : Int) := by omega
      have hm0 : (0 : Int) ≤ (m : Int) := by omega
      obtain ⟨p0, p1, p2⟩ := HBR.out.edge (k := k) (by rw [HN.out]; exact hlt)
      obtain ⟨p0', p1', p2'⟩ := HBR.out.edge (k := m) (by rw [HN.out]; omega)
      obtain ⟨x, HX⟩ : ∃ x : Ed, Hid (x = eat L k) := ⟨_, rfl⟩
      obtain ⟨y, HY⟩ : ∃ y : Ed, Hid (y = eat L m) := ⟨_, rfl⟩
      rw [← HX.out] at p0 p1 p2
      rw [← HY.out] at p0' p1' p2'
      obtain ⟨x0, x1, x2⟩ := x
      obtain ⟨y0, y1, y2⟩ := y
      dsimp only at p0 p1 p2 p0' p1' p2'
      have HKM : Hid (k - 1 = m) := by show _ = _; omega
      clear hm1
      by_cases he : (x0, x1, x2) = ((y0, y1, y2) : Ed)
      · have hq := fun w => eql_edge x0 x1 x2 y0 y1 y2 true w (decide_eq_true he).symm
        have HEQ : Hid (eat L k = eat L (k - 1)) := by show _ = _; rw [HKM.out, ← HX.out, ← HY.out]; exact he
        have HI0 : Hid (dedTo L (k + 1) = L.take k) := by show _ = _; rw [dedTo_no (by omega) HEQ.out, dedTo_all HD.out (by rw [HN.out]; omega)]
        have hkc : (k : Int) ≤ (cap : Int) := by omega
        have hkn : (k : Int) ≤ (n : Int) := by omega
        clear he
        go_wp2
        go_quiet (fail)
        clear p0 p1 p2 p0' p1' p2' hq
        go_wp2
        obtain ⟨r, HRR⟩ : ∃ r, Hid (n - k = r) := ⟨_, rfl⟩
        obtain ⟨cr, HCR⟩ : ∃ cr, Hid (cap - k = cr) := ⟨_, rfl⟩
        rw [HRR.out, HCR.out]
        go_loopw [3, 5] (fun i v wq => ∃ q j : Nat, i = .int .i64 q ∧ v = .int .i64 j ∧ 1 ≤ j ∧ k + j ≤ n ∧ Hid (CI wq g L n q (k + j)) ∧ Hid (KeptP (fun c => c = g) w wq)) (fun _ v _ => n - (intOf v).toNat)
        case atStart => exact ⟨k, 1, rfl, rfl, by omega, by omega, CI.start (HBR.out.drews _) HN.out hlt HI0.out, HK.out.drews _⟩
        case round =>
          obtain ⟨q, j, rfl, rfl, hj1, hj, HCI, HKQ⟩ := hrel
          have hr : r = n - k := HRR.out.symm
          have hqlt := HCI.out.lt
          by_cases hjl : k + j < n
          · have hjl1 : (j : Int) < (r : Int) := by omega
            have hj0 : (0 : Int) ≤ (j : Int) := by omega
            obtain ⟨i, hi1⟩ : ∃ i, j = i + 1 := ⟨j - 1, by omega⟩
            have hsub : (j : Int) - 1 = (i : Int) := by omega
            have hsubw : IntKind.i64.wrap ((j : Int) - 1) = (i : Int) := by rw [hsub]; simp [IntKind.wrap, IntKind.bits, IntKind.signed]; omega
            have hil : (i : Int) < (r : Int) := by omega
            have hi0 : (0 : Int) ≤ (i : Int) := by omega
            have hql : (q : Int) < (n : Int) := by omega
            have hq0 : (0 : Int) ≤ (q : Int) := by omega
            have e1 : (k + j) * 3 = k * 3 + j * 3 := by omega
            have e2 : (k + i) * 3 = k * 3 + i * 3 := by omega
            obtain ⟨p0, p1, p2⟩ := HCI.out.edge (j := k + j) (by omega) (by omega)
            obtain ⟨p0', p1', p2'⟩ := HCI.out.edge (j := k + i) (by omega) (by omega)
            rw [e1] at p0 p1 p2
            rw [e2] at p0' p1' p2'
            obtain ⟨x, HX⟩ : ∃ x : Ed, Hid (x = eat L (k + j)) := ⟨_, rfl⟩
            obtain ⟨y, HY⟩ : ∃ y : Ed, Hid (y = eat L (k + i)) := ⟨_, rfl⟩
            rw [← HX.out] at p0 p1 p2
            rw [← HY.out] at p0' p1' p2'
            obtain ⟨x0, x1, x2⟩ := x
            obtain ⟨y0, y1, y2⟩ := y
            dsimp only at p0 p1 p2 p0' p1' p2'
            have HKI : Hid (k + j - 1 = k + i) := by show _ = _; omega
            clear hi1 e1 e2
            by_cases he : (x0, x1, x2) = ((y0, y1, y2) : Ed)
            · have hq := fun w => neq_edges x0 x1 x2 y0 y1 y2 false w (decide_eq_false (fun h => h he)).symm
              have HEQ : Hid (eat L (k + j) = eat L (k + j - 1)) := by show _ = _; rw [HKI.out, ← HX.out, ← HY.out]; exact he
              clear he
              go_wp2
              go_quiet (fail)
              go_wp2
              go_roundw
              case rel => exact ⟨q, j + 1, rfl, by go_num, by omega, by omega, (HCI.out.skip hjl HEQ.out).drews _, HKQ.out.drews _⟩
              case measure => simp [intOf]; omega
            · have hq := fun w => neq_edges x0 x1 x2 y0 y1 y2 true w (decide_eq_true he).symm
              have HNE : Hid (eat L (k + j) ≠ eat L (k + j - 1)) := by rw [HKI.out, ← HX.out, ← HY.out]; exact he
              obtain ⟨⟨z, z0, z1, z2⟩, hfr⟩ := HCI.out.slot
              have f0 := hfr (q * 3)
              have f1 := hfr (q * 3 + 1)
              have f2 := hfr (q * 3 + 2)
              clear he hfr
              go_wp2
              go_quiet (fail)
              go_wp2
              go_roundw
              case rel => exact ⟨q + 1, j + 1, by go_num, by go_num, by omega, by omega, (HCI.out.drews _).keep hjl HNE.out (x0, x1, x2) HX.out, (((HKQ.out.drews _).setCell rfl _).setCell rfl _).setCell rfl _⟩
              case measure => simp [intOf]; omega
          · have hjn : k + j = n := by omega
            rw [hjn] at HCI
            have hqc : (q : Int) ≤ (cap : Int) := by omega
            have hqn : (q : Int) ≤ (n : Int) := by omega
            have hge : ¬ (j : Int) < (r : Int) := by omega
            have hcl : ∀ ty, (Builtin.clear_ #[24] ty #[.slice (some ⟨g, q * 3, none⟩) (n - q) (cap - q)]).run Tryd.prog wr = .ok (.tuple #[]) (wr.setCells g (q * 3) (Builtin.zeroCells (Value.agg #[.int .i64 0, .int .u8 0, .int .i64 0]).cells (n - q)).toList) :=
              fun ty => run_clear_cells wr _ _ ty _ Tryd.underlying24 ezero g (q * 3) (n - q) (cap - q) (by omega) HCI.out.cells (fun j _ => HCI.out.slot.2 _) (zero_one _)
            obtain ⟨vs, HVS⟩ : ∃ vs, Hid (vs = (Builtin.zeroCells (Value.agg #[.int .i64 0, .int .u8 0, .int .i64 0]).cells (n - q)).toList) := ⟨_, rfl⟩
            rw [← HVS.out] at hcl
            have HFL : Hid ((dedL L).length = q) := by show _ = _; unfold dedL; rw [HN.out]; exact HCI.out.len
            have HFB : Hid (EBlk (wr.setCells g (q * 3) vs) g (dedL L)) := HCI.out.done HN.out vs
            have HFK : Hid (KeptP (fun c => c = g) w (wr.setCells g (q * 3) vs)) := KeptP.setCells (p := fun c => c = g) rfl vs (q * 3) HKQ.out
            clear HVS HCI HKQ
            go_wp2
            go_ret
            exact ⟨q, rfl, HFL, HFB, HFK⟩
      · have hq := fun w => eql_edge x0 x1 x2 y0 y1 y2 false w (decide_eq_false he).symm
        have HNE : Hid (eat L k ≠ eat L (k - 1)) := by rw [HKM.out, ← HX.out, ← HY.out]; exact he
        clear he
        go_wp2
        go_quiet (fail)
        go_wp2
        go_roundw
        case rel =>
          refine ⟨k + 1, by go_num, by omega, by omega, fun i h1 h2 => ?_, HBR.out.drews _, HK.out.drews _⟩
          by_cases e : i = k
          · subst e; exact HNE.out
          · exact HD.out i h1 (by omega)
        case measure => simp [intOf]; omega
    · obtain rfl : k = n := by omega
      have HDD : Hid (dedL L = L) := by
        show _ = _
        unfold dedL
        rw [dedTo_all (by rw [HN.out]; exact HD.out) (Nat.le_refl _), List.take_length]
      go_wp2
      go_ret
      exact ⟨k, rfl, by rw [HDD.out]; exact HN, by rw [HDD.out]; exact HBR, HK⟩
/-- over edges that are owned, or none -/
theorem compactOwn_any (lo hi n cap : Nat) (a : Option Addr) (L : List Ed) (w : World) (ho : EdgesOwn lo hi w a L) (hn : L.length = n) (hm : n ≤ 1048576) (hcap : n ≤ cap) :
    Calls Tryd.prog 45 #[.slice a n cap] w fun e w' => ∃ m : Nat, e = .returned (.slice a m cap) ∧ Hid ((dedL L).length = m) ∧ Hid (EdgesOwn lo hi w' a (dedL L)) ∧ Hid (KeptP (fun c => lo ≤ c ∧ c < hi) w w') := by
  rcases ho with rfl | ⟨b, rfl, h1, h2, h3⟩
  · obtain rfl : n = 0 := by simpa using hn.symm
    clear hn hm hcap
    go_enter Tryd.func45, Tryd.ntmps45
    go_wp2
    go_ret
    exact ⟨0, rfl, rfl, .inl rfl, KeptP.refl _ _⟩
  · refine (compactE_any b n cap L w h3 hn hm hcap).mono ?_
    rintro e w' ⟨m, rfl, g1, g2, g3⟩
    exact ⟨m, rfl, g1, .inr ⟨b, rfl, h1, h2, g2.out⟩, g3.out.mono (fun k hk => by rw [hk]; exact ⟨h1, h2⟩)⟩

end Go.Proofs.YtigojleieihdoaaDoor
