/-
  impl.ReadGraph.
-/
import Derived.Test.YtelikebpddhncaaGRdW
import Derived.Test.YtelikebpddhncaaReadI
namespace Go.Proofs.Ytelikebpddhncaa
open Go.RowKit

/-- the cells of a list of edges, as a list -/
def ecells (l : List Ed) : List Value := (List.range (l.length * 3)).map (ef l)
theorem ecells_len (l : List Ed) : (ecells l).length = l.length * 3 := by simp [ecells]
theorem eat_app {l : List Ed} {x : Ed} {i : Nat} (h : i < l.length) : eat (l ++ [x]) i = eat l i := by simp [eat, List.getD, List.getElem?_append_left h]
theorem eat_last (l : List Ed) (x : Ed) : eat (l ++ [x]) l.length = x := by simp [eat, List.getD]
theorem ecells_snoc (l : List Ed) (x : Ed) : ecells (l ++ [x]) = ecells l ++ [.int .i64 x.1, .int .u8 x.2.1, .int .i64 x.2.2] := by
  unfold ecells
  rw [List.length_append, List.length_singleton, show (l.length + 1) * 3 = l.length * 3 + 1 + 1 + 1 by omega, List.range_succ, List.range_succ, List.range_succ]
  simp only [List.map_append, List.append_assoc]
  congr 1
  · refine List.map_congr_left fun j hj => ?_
    have hj' := List.mem_range.1 hj
    unfold ef
    rw [eat_app (by omega)]
  · simp only [List.map_cons, List.map_nil, ef0, ef1, ef2, eat_last]
    rfl
/-- edges that are owned, out of their row -/
theorem edges_own {B n : Nat} {w : World} {v : Value} {l : List Ed} (h : w.ownsRow B 42 3 v n (ecells l)) (hn : l.length = n) : ∃ a cap, v = .slice a n cap ∧ EdgesOwn B w.heap.size w a l := by
  rcases h.2 with ⟨rfl, h0⟩ | ⟨g, cap, cur, rfl, hg, hb, _⟩
  · exact ⟨none, 0, by rw [h0], .inl (List.length_eq_zero_iff.1 (by omega))⟩
  · refine ⟨_, cap, rfl, .inr ⟨g, rfl, hg, (Array.getElem?_eq_some_iff.1 hb).1, ?_⟩⟩
    unfold EBlk
    rw [hn]
    exact (blk_own h).congr fun i hi => by simp [ecells, List.getD, hn, hi]
theorem news_three (w2 : World) (x y z : Value) (T : TypeId) : ∀ j u, [x, y, z][j]? = some u → (w2.alloc (.cells #[x, y, z] T)).cell? ((⟨w2.heap.size, 0, none⟩ : Addr).add j) = some u := by
  obtain ⟨h0, h1, h2⟩ := box_cells w2 x y z T _ rfl
  intro j u hu
  rw [add_none, Nat.zero_add]
  rcases j with _ | _ | _ | j
  · simp at hu; subst hu; exact h0
  · simp at hu; subst hu; exact h1
  · simp at hu; subst hu; exact h2
  · simp at hu

/-- what the walk keeps at hand: the reader at B + 1, the graph's box at P, its edges so far -/
structure GL (T : TypeId) (B P M : Nat) (w wi : World) (s : ByteArray) (st : St) (z : Int) (v : Value) (L : List Ed) : Prop where
  rd : RdAt T (B + 1) s st wi
  g : Blk wi P 2 (fun i => if i = 0 then .int .i64 z else v)
  own : wi.ownsRow (P + 1) 42 3 v L.length (ecells L)
  res : Blk wi B 2 (fun i => if i = 0 then .int .i64 0 else .slice none 0 0)
  bel : Below B w wi
  low : B + 1 < P ∧ P + 1 ≤ M
  size : M ≤ wi.heap.size
  vlt : ∀ k, v.ownBlock = some k → k < M
theorem owns_upto {B M e s n : Nat} {w w' : World} {v : Value} {xs : List Value} (ho : w.ownsRow B e s v n xs) (hv : ∀ k, v.ownBlock = some k → k < M) (hb : ∀ k, B ≤ k → k < M → w'.heap[k]? = w.heap[k]?) : w'.ownsRow B e s v n xs := by
  refine ⟨ho.1, ?_⟩
  rcases ho.2 with hn | ⟨g, cap, cur, rfl, hg, hh, r⟩
  · exact .inl hn
  · exact .inr ⟨g, cap, cur, rfl, hg, by rw [hb g hg (hv g rfl)]; exact hh, r⟩
theorem GL.over {T : TypeId} {B P M : Nat} {w wi w' : World} {s : ByteArray} {st : St} {z : Int} {v : Value} {L : List Ed} (h : GL T B P M w wi s st z v L) (hb : Below M wi w') : GL T B P M w w' s st z v L :=
  have hl := h.low
  ⟨h.rd.below hb (by omega), h.g.of_block (hb.block _ (by omega)), owns_upto h.own h.vlt (fun k _ hk => hb.block k hk), h.res.of_block (hb.block _ (by omega)), h.bel.trans (hb.mono (by omega)), h.low, Nat.le_trans h.size hb.size, h.vlt⟩
theorem GL.num {T : TypeId} {B P M : Nat} {w wi w' : World} {s : ByteArray} {st st' : St} {z : Int} {v : Value} {L : List Ed} (h : GL T B P M w wi s st z v L) (hk : KeptBut (B + 1) wi w') (hr : RdAt T (B + 1) s st' w') : GL T B P M w w' s st' z v L :=
  have hl := h.low
  have hs := h.size
  ⟨hr, blk_but h.g hk (by omega), owns_upto h.own h.vlt (fun k _ _ => hk.block k (by omega) (by omega)), blk_but h.res hk (by omega), h.bel.trans (hk.to_below (by omega) (by omega)), h.low, Nat.le_trans h.size hk.size, h.vlt⟩
theorem owns_at {w9 : World} {P n : Nat} {v' u : Value} {xs : List Value} (ho : w9.ownsRow (P + 1) 42 3 v' n xs) : (w9.setCell ⟨P, 1, none⟩ u).ownsRow (P + 1) 42 3 v' n xs :=
  owns_upto (M := w9.heap.size) ho (fun k hk => (ho.lt k hk).2) (fun k h1 _ => Below.heap_setCell _ _ _ _ (by simp; omega))
theorem GL.push {T : TypeId} {B P M : Nat} {w w8 w9 : World} {s : ByteArray} {st : St} {z : Int} {v v' : Value} {L : List Ed} {x : Ed} (h : GL T B P M w w8 s st z v L)
    (hg : w8.grownBy w9 v.ownBlock) (ho : w9.ownsRow (P + 1) 42 3 v' (L.length + 1) (ecells L ++ [.int .i64 x.1, .int .u8 x.2.1, .int .i64 x.2.2])) : GL T B P w9.heap.size w (w9.setCell ⟨P, 1, none⟩ v') s st z v' (L ++ [x]) := by
  have hl := h.low
  have hs := h.size
  have hb : Below (P + 1) w8 w9 := (Below.refl _ _).grown hg (by omega) (fun k hk => (h.own.lt k hk).1)
  have hz := hb.size
  refine ⟨?_, ?_, ?_, ?_, ?_, by omega, by simp, fun k hk => (ho.lt k hk).2⟩
  · obtain ⟨p, f, h1, h2⟩ := h.rd.below hb (by omega)
    exact ⟨p, f, by rw [Below.heap_setCell _ _ _ _ (by simp; omega)]; exact h1, h2⟩
  · exact ((h.g.of_block (hb.block _ (by omega))).set 1 (by omega) _).congr (fun i hi => by
      rcases (show i = 0 ∨ i = 1 by omega) with rfl | rfl <;> simp)
  · rw [List.length_append, List.length_singleton, ecells_snoc]
    exact owns_at ho
  · exact (h.res.of_block (hb.block _ (by omega))).of_block (Below.heap_setCell _ _ _ _ (by simp; omega))
  · exact (h.bel.trans (hb.mono (by omega))).setCell (by simp; omega) _
theorem readEdges_succ (m : Nat) (st : St) : readEdges (m + 1) st = ((readEdge 12 st).1 :: (readEdges m (readEdge 12 st).2).1, (readEdges m (readEdge 12 st).2).2) := rfl
theorem blk_three_set {w : World} {b : Nat} {x y z : Value} (h : Blk w b 3 (fun i => if i = 0 then x else if i = 1 then y else z)) : w.cell? ⟨b, 0, none⟩ = some x ∧ w.cell? ⟨b, 1, none⟩ = some y ∧ w.cell? ⟨b, 2, none⟩ = some z :=
  ⟨h.cell (i := 0) (by omega), h.cell (i := 1) (by omega), h.cell (i := 2) (by omega)⟩
theorem Blk.put0 {w : World} {b : Nat} {x y z : Value} (h : Blk w b 3 (fun i => if i = 0 then x else if i = 1 then y else z)) (u : Value) : Blk (w.setCell ⟨b, 0, none⟩ u) b 3 (fun i => if i = 0 then u else if i = 1 then y else z) :=
  (Blk.set h 0 (by omega) u).congr (fun i hi => by rcases (show i = 0 ∨ i = 1 ∨ i = 2 by omega) with rfl | rfl | rfl <;> simp)
theorem Blk.put1 {w : World} {b : Nat} {x y z : Value} (h : Blk w b 3 (fun i => if i = 0 then x else if i = 1 then y else z)) (u : Value) : Blk (w.setCell ⟨b, 1, none⟩ u) b 3 (fun i => if i = 0 then x else if i = 1 then u else z) :=
  (Blk.set h 1 (by omega) u).congr (fun i hi => by rcases (show i = 0 ∨ i = 1 ∨ i = 2 by omega) with rfl | rfl | rfl <;> simp)
theorem Blk.put2 {w : World} {b : Nat} {x y z : Value} (h : Blk w b 3 (fun i => if i = 0 then x else if i = 1 then y else z)) (u : Value) : Blk (w.setCell ⟨b, 2, none⟩ u) b 3 (fun i => if i = 0 then x else if i = 1 then y else u) :=
  (Blk.set h 2 (by omega) u).congr (fun i hi => by rcases (show i = 0 ∨ i = 1 ∨ i = 2 by omega) with rfl | rfl | rfl <;> simp)

set_option maxHeartbeats 4000000 in
set_option maxRecDepth 100000 in
theorem readGraph_any (s : ByteArray) (w : World) (hs : s.size ≤ 1048576) :
    Calls Try.prog 37 #[.string s] w fun e w' => ∃ (z : Int) (v : Value) (ok : Bool), e = .returned (.tuple #[.agg #[.int .i64 z, v], .bool ok]) ∧ Hid (ok = (implReadG s.data.toList).2) ∧ Hid (z = if ok = true then (implReadG s.data.toList).1.1 else 0) ∧ Hid (∃ a cap, v = .slice a (if ok = true then (implReadG s.data.toList).1.2 else []).length cap ∧ EdgesOwn w.heap.size w'.heap.size w' a (if ok = true then (implReadG s.data.toList).1.2 else [])) ∧ Hid (Below w.heap.size w w') := by
  obtain ⟨i1, hj0, hy0, hy1, hy2⟩ := info_parts Try.info42
  obtain ⟨B, HB⟩ : ∃ B, Hid (B = w.heap.size) := ⟨_, rfl⟩
  go_enter Try.func37, Try.ntmps37
  go_wp2_with fail
  rw [← HB.out]
  have hrd0 : RdAt 80 (B + 1) s (some s.data.toList) ((w.alloc (.cells #[.int .i64 0, .slice none 0 0] 37)).alloc (.cells #[.string s, .int .i64 0, .bool false] 80)) := by
    refine ⟨0, false, ?_, Nat.zero_le _, rfl⟩
    rw [HB.out]
    have := heap_new (w.alloc (.cells #[.int .i64 0, .slice none 0 0] 37)) (.cells #[.string s, .int .i64 0, .bool false] 80)
    simpa using this
  refine (number_any (B + 1) s (some s.data.toList) 12 _ hrd0 hs).mono ?_
  rintro e w1 ⟨Z, rfl, HZ, HRD1, HK1⟩
  have HP0 : Hid (Blk w1 B 2 (fun i => if i = 0 then .int .i64 0 else .slice none 0 0)) := blk_but ((blk_two w B HB.out _ _ _).alloc _) HK1.out (by omega)
  have HL1 : Hid (Below B w w1) := by
    have h := HK1.out.to_below (B := B) (by omega) (by rw [HB.out]; simp; omega)
    rw [HB.out] at h ⊢
    exact (below2 w _ _).trans h
  have HS1 : Hid (B + 1 + 1 ≤ w1.heap.size) := by have := HK1.out.size; rw [HB.out]; simpa [Hid] using this
  obtain ⟨P, HP⟩ : ∃ P, Hid (P = w1.heap.size) := ⟨_, rfl⟩
  have HG0 : Hid (GL 80 B P (P + 1) w (w1.alloc (.cells #[.int .i64 (Z : Int), .slice none 0 0] 37)) s (rn (some s.data.toList) 12).2 (Z : Int) (.slice none 0 0) []) := by
    have h1 := HS1.out
    refine ⟨HRD1.out.below (below1 w1 _) (by omega), blk_two w1 P HP.out _ _ _, World.ownsRow_nil _ _ _ _, HP0.out.alloc _, HL1.out.alloc (by omega) _, by rw [HP.out]; omega, by rw [HP.out]; simp, fun k hk => by simp [Value.ownBlock] at hk⟩
  clear hrd0 HK1 HRD1 HP0 HL1 HS1
  go_wp2_with fail
  rw [← HP.out]
  refine (number_any (B + 1) s (rn (some s.data.toList) 12).2 40 _ HG0.out.rd hs).mono ?_
  rintro e w2 ⟨N, rfl, HN, HRD2, HK2⟩
  have HG2 : Hid (GL 80 B P (P + 1) w w2 s (rn (rn (some s.data.toList) 12).2 40).2 (Z : Int) (.slice none 0 0) []) := HG0.out.num HK2.out HRD2.out
  have hN4 : N ≤ 40 := by rw [HN.out]; exact rn_le _ _
  obtain ⟨st0, HST⟩ : ∃ st0, Hid (st0 = (rn (rn (some s.data.toList) 12).2 40).2) := ⟨_, rfl⟩
  rw [← HST.out] at HG2
  clear HG0 HK2 HRD2
  go_wp2
  go_loopw [12] (fun i wr => ∃ (k : Nat) (L : List Ed) (st : St) (v : Value) (M : Nat), i = .int .i64 k ∧ k ≤ N ∧ Hid (readEdges N st0 = (L ++ (readEdges (N - k) st).1, (readEdges (N - k) st).2)) ∧ Hid (L.length = k) ∧ Hid (GL 80 B P M w wr s st (Z : Int) v L)) (fun i _ => N - (intOf i).toNat)
  case atStart => exact ⟨0, [], st0, .slice none 0 0, P + 1, rfl, by omega, by show _ = _; simp, rfl, HG2⟩
  case round =>
    obtain ⟨k, L, st, v, M, rfl, hk, HE, HLN, HG⟩ := hrel
    by_cases hlt : k < N
    · have hlt1 : (k : Int) < (N : Int) := by omega
      obtain ⟨E, HEE⟩ : ∃ E, Hid (E = wr.heap.size) := ⟨_, rfl⟩
      have HME : Hid (M ≤ E) := by rw [HEE.out]; exact HG.out.size
      have HG3 : Hid (GL 80 B P M w (wr.alloc (.cells #[.int .i64 0, .int .u8 0, .int .i64 0] 42)) s st (Z : Int) v L) := HG.out.over ((Below.refl _ _).alloc HG.out.size _)
      have HX3 : Hid (Blk (wr.alloc (.cells #[.int .i64 0, .int .u8 0, .int .i64 0] 42)) E 3 (fun i => if i = 0 then .int .i64 0 else if i = 1 then .int .u8 0 else .int .i64 0)) := blk_three wr E HEE.out _ _ _ _
      have hlo := HG.out.low
      have hBE : E ≠ B + 1 := by have := HME.out; omega
      clear hlo
      go_wp2_with fail
      rw [← HEE.out]
      refine (number_any (B + 1) s st 12 _ HG3.out.rd hs).mono ?_
      rintro e w4 ⟨y0, rfl, HY0, HRD4, HK4⟩
      have HG4 : Hid (GL 80 B P M w w4 s (rn st 12).2 (Z : Int) v L) := HG3.out.num HK4.out HRD4.out
      have HX4 : Hid (Blk w4 E 3 (fun i => if i = 0 then .int .i64 0 else if i = 1 then .int .u8 0 else .int .i64 0)) := blk_but HX3.out HK4.out hBE
      have HG4' : Hid (GL 80 B P M w (w4.setCell ⟨E, 0, none⟩ (.int .i64 (y0 : Int))) s (rn st 12).2 (Z : Int) v L) := HG4.out.over ((Below.refl _ _).setCell HME.out _)
      have HX4' : Hid (Blk (w4.setCell ⟨E, 0, none⟩ (.int .i64 (y0 : Int))) E 3 (fun i => if i = 0 then .int .i64 (y0 : Int) else if i = 1 then .int .u8 0 else .int .i64 0)) := HX4.out.put0 _
      obtain ⟨x40, x41, x42⟩ := blk_three_set HX4.out
      have xf4 := HX4.out.frozen 0
      clear HG HG3 HX3 HK4 HRD4 HG4 HX4
      go_wp2_with fail
      refine (oneByte_any (B + 1) s (rn st 12).2 _ HG4'.out.rd hs).mono ?_
      rintro e w5 ⟨y1, rfl, HY1, HRD5, HK5⟩
      have HG5 : Hid (GL 80 B P M w w5 s (rb (rn st 12).2).2 (Z : Int) v L) := HG4'.out.num HK5.out HRD5.out
      have HX5 : Hid (Blk w5 E 3 (fun i => if i = 0 then .int .i64 (y0 : Int) else if i = 1 then .int .u8 0 else .int .i64 0)) := blk_but HX4'.out HK5.out hBE
      have HG5' : Hid (GL 80 B P M w (w5.setCell ⟨E, 1, none⟩ (.int .u8 (y1 : Int))) s (rb (rn st 12).2).2 (Z : Int) v L) := HG5.out.over ((Below.refl _ _).setCell HME.out _)
      have HX5' : Hid (Blk (w5.setCell ⟨E, 1, none⟩ (.int .u8 (y1 : Int))) E 3 (fun i => if i = 0 then .int .i64 (y0 : Int) else if i = 1 then .int .u8 (y1 : Int) else .int .i64 0)) := HX5.out.put1 _
      obtain ⟨x50, x51, x52⟩ := blk_three_set HX5.out
      have xf5 := HX5.out.frozen 1
      clear x40 x41 x42 xf4 HG4' HX4' HK5 HRD5 HG5 HX5
      go_wp2_with fail
      refine (number_any (B + 1) s (rb (rn st 12).2).2 12 _ HG5'.out.rd hs).mono ?_
      rintro e w6 ⟨y2, rfl, HY2, HRD6, HK6⟩
      obtain ⟨st6, HST6⟩ : ∃ st6, Hid (st6 = (rn (rb (rn st 12).2).2 12).2) := ⟨_, rfl⟩
      rw [← HST6.out] at HRD6
      have HG6 : Hid (GL 80 B P M w w6 s st6 (Z : Int) v L) := HG5'.out.num HK6.out HRD6.out
      have HX6 : Hid (Blk w6 E 3 (fun i => if i = 0 then .int .i64 (y0 : Int) else if i = 1 then .int .u8 (y1 : Int) else .int .i64 0)) := blk_but HX5'.out HK6.out hBE
      obtain ⟨w7, HW7⟩ : ∃ w7, Hid (w7 = w6.setCell ⟨E, 2, none⟩ (.int .i64 (y2 : Int))) := ⟨_, rfl⟩
      have HG7 : Hid (GL 80 B P M w w7 s st6 (Z : Int) v L) := by rw [HW7.out]; exact HG6.out.over ((Below.refl _ _).setCell HME.out _)
      obtain ⟨d0, d1, d2⟩ : w7.cell? ⟨E, 0, none⟩ = some (.int .i64 (y0 : Int)) ∧ w7.cell? ⟨E, 1, none⟩ = some (.int .u8 (y1 : Int)) ∧ w7.cell? ⟨E, 2, none⟩ = some (.int .i64 (y2 : Int)) := by rw [HW7.out]; exact blk_three_set (HX6.out.put2 _)
      have xf6 := HX6.out.frozen 2
      obtain ⟨x60, x61, x62⟩ := blk_three_set HX6.out
      have c1 : w7.cell? ⟨P, 1, none⟩ = some v := HG7.out.g.cell (i := 1) (by omega)
      have hown : (w7.alloc (.cells #[.int .i64 (y0 : Int), .int .u8 (y1 : Int), .int .i64 (y2 : Int)] 42)).ownsRow (P + 1) 42 3 v k (ecells L) := by have h := HG7.out.own.alloc (.cells #[.int .i64 (y0 : Int), .int .u8 (y1 : Int), .int .i64 (y2 : Int)] 42); rwa [HLN.out] at h
      have hP7 : P + 1 ≤ w7.heap.size := by have := HG7.out.low; have := HG7.out.size; omega
      have HG8 : Hid (GL 80 B P M w (w7.alloc (.cells #[.int .i64 (y0 : Int), .int .u8 (y1 : Int), .int .i64 (y2 : Int)] 42)) s st6 (Z : Int) v L) := HG7.out.over ((Below.refl _ _).alloc HG7.out.size _)
      clear x50 x51 x52 xf5 HG5' HX5' HK6 HRD6 HG6
      go_upto_region 9 with fail
      rw [← HW7.out]
      clear x60 x61 x62 xf6 HW7
      go_wp2_with (at_builtin; refine wpList_append_lies _ rfl (.tmp 22) (.tmp 24) 35 rfl (P + 1) 42 i1 _ 3 24 Try.underlying35 hj0 hy0 hy1 hy2 rfl (by decide) v k (ecells L) rfl hown ⟨w7.heap.size, 0, none⟩ 1 1 [.int .i64 (y0 : Int), .int .u8 (y1 : Int), .int .i64 (y2 : Int)] rfl rfl (news_three w7 _ _ _ _) (by simp [Value.oneCell']) (by decide) (by unfold maxLen; omega) (by omega) (by simp; omega) _ rfl ?_)
      intro g9 cap9 w9 hown9 hgrow9 _ _
      have HG9 : Hid (GL 80 B P w9.heap.size w (w9.setCell ⟨P, 1, none⟩ (.slice (some ⟨g9, 0, none⟩) (k + 1) cap9)) s st6 (Z : Int) (.slice (some ⟨g9, 0, none⟩) (k + 1) cap9) (L ++ [((y0 : Int), (y1 : Int), (y2 : Int))])) := HG8.out.push hgrow9 (by rw [HLN.out]; exact hown9)
      have hb9 : Below (P + 1) (w7.alloc (.cells #[.int .i64 (y0 : Int), .int .u8 (y1 : Int), .int .i64 (y2 : Int)] 42)) w9 := (Below.refl _ _).grown hgrow9 (by simp; omega) (fun k hk => (hown.lt k hk).1)
      have k9 := HG8.out.g.of_block (hb9.block P (by omega))
      have c9 : w9.cell? ⟨P, 1, none⟩ = some v := k9.cell (i := 1) (by omega)
      have f9 : w9.frozen? ⟨P, 1, none⟩ = false := k9.frozen 1
      clear k9 hb9 hown hown9 hgrow9 HG8 HG7
      go_wp2
      go_roundw
      case rel =>
        refine ⟨k + 1, L ++ [((y0 : Int), (y1 : Int), (y2 : Int))], st6, _, _, by go_num, by omega, ?_, by show _ = _; rw [List.length_append, HLN.out]; rfl, HG9⟩
        show _ = _
        rw [HE.out, show N - k = (N - (k + 1)) + 1 by omega, readEdges_succ]
        have e : readEdge 12 st = (((y0 : Int), (y1 : Int), (y2 : Int)), st6) := by unfold readEdge; rw [← HY0.out, ← HY1.out, ← HY2.out, ← HST6.out]
        rw [e]; simp
      case measure => simp [intOf]; omega
    · obtain rfl : k = N := by omega
      have HRE : Hid (readEdges k st0 = (L, st)) := by
        have h := HE.out
        rw [Nat.sub_self] at h
        simpa [Hid, readEdges] using h
      obtain ⟨a, cap, rfl, HEO⟩ := edges_own HG.out.own rfl
      rw [HLN.out] at HG
      have HEO' : Hid (EdgesOwn (P + 1) wr.heap.size wr a L) := HEO
      obtain ⟨r1, HR1⟩ : ∃ r : Bool, Hid (r = decide (st = some [])) := ⟨_, rfl⟩
      obtain ⟨r2, HR2⟩ : ∃ r : Bool, Hid (r = okG (Z : Int) L) := ⟨_, rfl⟩
      have HIR : Hid (implReadG s.data.toList = (((Z : Int), L), r1 && r2)) := by
        show _ = _
        unfold implReadG
        simp only []
        rw [← HZ.out, ← HN.out, ← HST.out, HRE.out, HR1.out, HR2.out]
      clear HEO
      go_wp2_with fail
      refine (isAtEnd_any (B + 1) s st r1 wr HG.out.rd HR1.out).mono ?_
      rintro e w3 ⟨rfl, hb3⟩
      have HG3 : Hid (GL 80 B P M w w3 s st (Z : Int) (.slice a k cap) L) := HG.out.over (hb3.mono HG.out.size)
      have HE3 : Hid (EdgesOwn (P + 1) wr.heap.size w3 a L) := HEO'.out.below hb3 (Nat.le_refl _)
      have HS3 : Hid (wr.heap.size ≤ w3.heap.size) := hb3.size
      have g0 : w3.cell? ⟨P, 0, none⟩ = some (.int .i64 (Z : Int)) := HG3.out.g.cell (i := 0) (by omega)
      have g1 : w3.cell? ⟨P, 1, none⟩ = some (.slice a k cap) := HG3.out.g.cell (i := 1) (by omega)
      have q0 : w3.cell? ⟨B, 0, none⟩ = some (.int .i64 0) := HG3.out.res.cell (i := 0) (by omega)
      have q1 : w3.cell? ⟨B, 1, none⟩ = some (.slice none 0 0) := HG3.out.res.cell (i := 1) (by omega)
      have qf0 : w3.frozen? ⟨B, 0, none⟩ = false := HG3.out.res.frozen 0
      have qf1 : w3.frozen? ⟨B, 1, none⟩ = false := HG3.out.res.frozen 1
      clear hb3 HG HEO'
      rcases Bool.eq_false_or_eq_true r1 with h1 | h1
      · subst h1
        go_wp2_with fail
        refine (graphOk_any (P + 1) wr.heap.size (Z : Int) a k cap L r2 w3 HE3.out.toIn HS3.out HLN.out (by omega) HR2.out).mono ?_
        rintro e w4 ⟨rfl, HB4⟩
        have HG4 : Hid (GL 80 B P M w w4 s st (Z : Int) (.slice a k cap) L) := HG3.out.over (HB4.out.mono HG3.out.size)
        have HE4 : Hid (EdgesOwn (P + 1) wr.heap.size w4 a L) := HE3.out.below HB4.out HS3.out
        have HS4 : Hid (wr.heap.size ≤ w4.heap.size) := Nat.le_trans HS3.out HB4.out.size
        have g0 : w4.cell? ⟨P, 0, none⟩ = some (.int .i64 (Z : Int)) := HG4.out.g.cell (i := 0) (by omega)
        have g1 : w4.cell? ⟨P, 1, none⟩ = some (.slice a k cap) := HG4.out.g.cell (i := 1) (by omega)
        have q0 : w4.cell? ⟨B, 0, none⟩ = some (.int .i64 0) := HG4.out.res.cell (i := 0) (by omega)
        have q1 : w4.cell? ⟨B, 1, none⟩ = some (.slice none 0 0) := HG4.out.res.cell (i := 1) (by omega)
        have qf0 : w4.frozen? ⟨B, 0, none⟩ = false := HG4.out.res.frozen 0
        have qf1 : w4.frozen? ⟨B, 1, none⟩ = false := HG4.out.res.frozen 1
        have hBB : B ≠ P := by have := HG4.out.low; omega
        have hBl : B < P + 1 := by have := HG4.out.low; omega
        rcases Bool.eq_false_or_eq_true r2 with h2 | h2
        · subst h2
          go_wp2
          refine bodyPost_ret (v := .tuple #[.agg #[.int .i64 (Z : Int), .slice a k cap], .bool true]) (by simp [results, Try.results37, go_sem, q0, q1]) rfl ?_
          refine ⟨(Z : Int), _, true, rfl, by show _ = _; rw [HIR.out]; rfl, by show _ = _; rw [HIR.out]; rfl, ⟨a, cap, by rw [HIR.out]; simp only [if_true]; rw [HLN.out], ?_⟩, ?_⟩
          · rw [HIR.out]
            have h := ((HE4.out.setCell (b := B) (j := 0) hBl (.int .i64 (Z : Int))).setCell (b := B) (j := 1) hBl (.slice a k cap))
            have hb := HB.out
            exact h.wide (by omega) (by simpa using HS4.out)
          · have h := (HG4.out.bel.setCell (p := ⟨B, 0, none⟩) (by simp) (.int .i64 (Z : Int))).setCell (p := ⟨B, 1, none⟩) (by simp) (.slice a k cap)
            show Below _ _ _
            rw [← HB.out]; exact h
        · subst h2
          go_wp2
          refine bodyPost_ret (v := .tuple #[.agg #[.int .i64 0, .slice none 0 0], .bool false]) (by simp [results, Try.results37, go_sem, q0, q1]) rfl ?_
          refine ⟨0, _, false, rfl, by show _ = _; rw [HIR.out]; rfl, rfl, ⟨none, 0, rfl, .inl rfl⟩, ?_⟩
          have h := (HG4.out.bel.setCell (p := ⟨B, 0, none⟩) (by simp) (.int .i64 0)).setCell (p := ⟨B, 1, none⟩) (by simp) (.slice none 0 0)
          show Below _ _ _
          rw [← HB.out]; exact h
      · subst h1
        go_wp2
        refine bodyPost_ret (v := .tuple #[.agg #[.int .i64 0, .slice none 0 0], .bool false]) (by simp [results, Try.results37, go_sem, q0, q1]) rfl ?_
        refine ⟨0, _, false, rfl, by show _ = _; rw [HIR.out]; rfl, rfl, ⟨none, 0, rfl, .inl rfl⟩, ?_⟩
        have h := (HG3.out.bel.setCell (p := ⟨B, 0, none⟩) (by simp) (.int .i64 0)).setCell (p := ⟨B, 1, none⟩) (by simp) (.slice none 0 0)
        show Below _ _ _
        rw [← HB.out]; exact h
end Go.Proofs.Ytelikebpddhncaa
