/-
  impl.PathEnds, impl.PathPairs.
-/
import Derived.Test.YteepbmgdjghfjaaLdF
namespace Go.Proofs.Yteepbmgdjghfjaa
open Go.RowKit

/-- where a path leads from a vertex, in a graph: nothing where one of them isn't right -/
def pEnds (s : Int) (l : List Ed) (ps : List Pc) (f : Int) : List Int :=
  if (okP ps && okG s l && inV s f) = true then endsL s.toNat (ldR s.toNat l ps) f.toNat else []
theorem verts_ends {n : Nat} {h : Nat → Nat} {R : Rl} (H : Rep n h R) (hn : n ≤ 12) {i : Nat} (hi : i < n) : vertsTo (h i) 12 = endsL n R i := by
  unfold vertsTo endsL
  congr 1
  have e : (List.range 12).filter (h i).testBit = (List.range 12).filter (fun j => decide (j < n) && R i j) := List.filter_congr fun j _ => H i hi j
  rw [e]
  obtain ⟨d, hd⟩ : ∃ d, 12 = n + d := ⟨12 - n, by omega⟩
  rw [hd, List.range_add, List.filter_append]
  have e2 : ((List.range d).map (n + ·)).filter (fun j => decide (j < n) && R i j) = [] := by
    rw [List.filter_eq_nil_iff]
    intro x hx
    obtain ⟨y, _, rfl⟩ := List.mem_map.1 hx
    simp
    intro h; omega
  rw [e2, List.append_nil]
  refine List.filter_congr fun j hj => ?_
  have := List.mem_range.1 hj
  simp [this]
theorem endsL_len (n : Nat) (R : Rl) (i : Nat) : (endsL n R i).length ≤ n := by
  unfold endsL
  rw [List.length_map]
  exact Nat.le_trans (List.length_filter_le _ _) (by simp)

set_option maxHeartbeats 600000 in
set_option maxRecDepth 100000 in
theorem pathEnds_any (lo hi : Nat) (s : Int) (a : Option Addr) (n cap : Nat) (l : List Ed) (lo2 hi2 : Nat) (b : Option Addr) (m mc : Nat) (ps : List Pc) (f : Int) (w : World) (ha : EdgesIn lo hi w a l) (hh : hi ≤ w.heap.size) (hn : l.length = n) (hm : n ≤ 1048576)
    (hb : PathIn lo2 hi2 w b ps) (hh2 : hi2 ≤ w.heap.size) (hn2 : ps.length = m) (hm2 : m ≤ 1048576) (hq : ∀ i, i < m → (pat ps i).2.2.length ≤ 1048576) :
    Calls Try.prog 24 #[gv s a n cap, pv b m mc, .int .i64 f] w fun e w' => ∃ (a' : Option Addr) (n' c' : Nat), e = .returned (.slice a' n' c') ∧ Hid ((pEnds s l ps f).length = n') ∧ Hid (RowOwn w.heap.size w'.heap.size w' a' (pEnds s l ps f)) ∧ Hid (Below w.heap.size w w') := by
  have HN : Hid (l.length = n) := hn
  have HA : Hid (EdgesIn lo hi w a l) := ha
  have HH : Hid (hi ≤ w.heap.size) := hh
  have HP : Hid (PathIn lo2 hi2 w b ps) := hb
  have HH2 : Hid (hi2 ≤ w.heap.size) := hh2
  have HN2 : Hid (ps.length = m) := hn2
  have HQ : Hid (∀ i, i < m → (pat ps i).2.2.length ≤ 1048576) := hq
  clear ha hh hn hb hh2 hn2 hq
  obtain ⟨B, HB⟩ : ∃ B, Hid (B = w.heap.size) := ⟨_, rfl⟩
  obtain ⟨W, HW⟩ : ∃ W, Hid (W = (w.alloc (.cells #[.int .i64 s, .slice a n cap] 26)).alloc (.cells #[.slice b m mc] 36)) := ⟨_, rfl⟩
  have HBW : Hid (Below w.heap.size w W) := by rw [HW.out]; exact below2 w _ _
  have HSW : Hid (W.heap.size = B + 2) := by rw [HW.out, HB.out]; show _ = _; simp
  have HG : Hid (Blk W B 2 (fun i => if i = 0 then .int .i64 s else .slice a n cap)) := by rw [HW.out]; exact (blk_two w B HB.out _ _ _).alloc _
  have HPB : Hid (Blk W (B + 1) 1 (fun _ => .slice b m mc)) := by rw [HW.out]; exact blk_one _ (B + 1) (by rw [HB.out]; simp) _ _
  have q0 := HPB.out.cell (i := 0) (by omega)
  obtain ⟨g0, g1⟩ := blk_pair_cells HG.out
  unfold pv
  go_enter Try.func24, Try.ntmps24
  obtain ⟨FF, HFF⟩ : ∃ F : Func, Hid (F = Try.f24) := ⟨_, rfl⟩
  rw [← HFF.out]
  go_upto_region 1 with fail
  rw [← HB.out, ← HW.out]
  clear HW
  go_wp2_with fail
  refine (leadsOfPath_any lo hi s a n cap l lo2 hi2 b m mc ps W (HA.out.below HBW.out HH.out) (Nat.le_trans HH.out HBW.out.size) HN.out hm (HP.out.below HBW.out HH2.out) (Nat.le_trans HH2.out HBW.out.size) HN2.out hm2 HQ.out).mono ?_
  rintro e w1 ⟨h, r, rfl, HR, HRE, HHL, HB1⟩
  obtain ⟨P7, HP7⟩ : ∃ P, Hid (P = w1.heap.size) := ⟨_, rfl⟩
  obtain ⟨W2, HW2⟩ : ∃ W1, Hid (W1 = (w1.alloc (.cells #[.int .u16 0, .int .u16 0, .int .u16 0, .int .u16 0, .int .u16 0, .int .u16 0, .int .u16 0, .int .u16 0, .int .u16 0, .int .u16 0, .int .u16 0, .int .u16 0] 93)).setCells P7 0 (lcells h)) := ⟨_, rfl⟩
  have HT1 : Hid ((w1.alloc (.cells #[.int .u16 0, .int .u16 0, .int .u16 0, .int .u16 0, .int .u16 0, .int .u16 0, .int .u16 0, .int .u16 0, .int .u16 0, .int .u16 0, .int .u16 0, .int .u16 0] 93)).there w1.heap.size 0 12) := (LBlk.zero w1 _ rfl _).there
  have HX2 : Hid (LBlk W2 P7 h) := by rw [HW2.out]; exact (LBlk.zero w1 P7 HP7.out _).put h
  have HBW2 : Hid (Below W.heap.size W W2) := by rw [HW2.out]; exact Below.setCells (by have := HP7.out; have := HB1.out.size; omega) _ _ (HB1.out.trans ((below1 w1 _).mono HB1.out.size))
  have HBE2 : Hid (Below w.heap.size w W2) := HBW.out.trans (HBW2.out.mono HBW.out.size)
  have HG2 : Hid (Blk W2 B 2 (fun i => if i = 0 then .int .i64 s else .slice a n cap)) := HG.out.of_block (HBW2.out.block _ HG.out.lt)
  clear q0 g0 g1
  obtain ⟨g0, g1⟩ := blk_pair_cells HG2.out
  go_upto_region 2 with (with_reducible refine wpList_here ?_; refine wpList_store_mid rfl 93 _ _ rfl w1.heap.size 0 (lcells h).toArray rfl rfl (by rw [lcells_size]; exact HT1.out) (by rw [lcells_size]; exact info_leads) (lcells_one _) ?_; dsimp only [Act.put])
  rw [← HP7.out]
  first | rw [← HW2.out] | (rw [show _ = W2 from HW2.out.symm])
  clear HW2 HT1
  obtain ⟨V, HV⟩ : ∃ V, Hid (V = inV s f) := ⟨_, rfl⟩
  have HNO : Hid (r = false ∨ V = false → pEnds s l ps f = []) := by
    intro h
    unfold pEnds
    rw [← HR.out, ← HV.out]
    rcases h with h | h <;> simp [h]
  rcases Bool.eq_false_or_eq_true r with hr | hr
  · subst hr
    go_wp2_with fail
    refine (isVertex_any f s V _ HV.out).mono ?_
    rintro e w3 ⟨rfl, rfl⟩
    rcases Bool.eq_false_or_eq_true V with hr | hr
    · subst hr
      have hin : 0 ≤ f ∧ f < s := by have := HV.out; unfold inV at this; simpa using this.symm
      have hs12 : s ≤ 12 := by
        have := HR.out
        have h2 : okG s l = true := by
          have h3 := this.symm
          simp only [Bool.and_eq_true] at h3
          exact h3.2
        exact (okG_12 h2).2
      obtain ⟨z, rfl⟩ : ∃ z : Nat, f = (z : Int) := ⟨f.toNat, by omega⟩
      have hz12 : z < 12 := by omega
      have hz1 : (z : Int) < 12 := by omega
      have hz0 : (0 : Int) ≤ (z : Int) := by omega
      have hx := HX2.out.get hz12
      have HE : Hid (vertsTo (h z) 12 = pEnds s l ps (z : Int)) := by
        show _ = _
        rw [verts_ends (HRE.out (by simp)) (by omega) (i := z) (by omega)]
        unfold pEnds
        rw [← HR.out, ← HV.out]
        rfl
      go_wp2_with fail
      refine (vertices_any (h z) _ (HHL.out z hz12)).mono ?_
      rintro e w4 ⟨a', n', c', rfl, HL4, HR4, HB4⟩
      rw [HE.out] at HL4 HR4
      go_wp2
      obtain rfl : FF = Try.f24 := HFF.out
      go_ret
      exact ⟨a', n', c', rfl, HL4, HR4.out.wide (HBE2.out.size) (Nat.le_refl _), HBE2.out.trans (HB4.out.mono HBE2.out.size)⟩
    · subst hr
      have HE : Hid (pEnds s l ps f = []) := HNO.out (.inr rfl)
      go_wp2
      obtain rfl : FF = Try.f24 := HFF.out
      go_ret
      rw [HE.out]
      first | exact ⟨_, _, _, rfl, rfl, .inl rfl, HBE2.out.alloc (HBE2.out.size) _⟩ | exact ⟨_, _, ⟨_, rfl⟩, rfl, .inl rfl, HBE2.out.alloc (HBE2.out.size) _⟩ | exact ⟨_, ⟨_, rfl⟩, .inl rfl, HBE2.out.alloc (HBE2.out.size) _⟩ | exact ⟨⟨_, _, _, rfl, rfl, .inl rfl⟩, HBE2.out.alloc (HBE2.out.size) _⟩
  · subst hr
    have HE : Hid (pEnds s l ps f = []) := HNO.out (.inl rfl)
    go_wp2
    obtain rfl : FF = Try.f24 := HFF.out
    go_ret
    rw [HE.out]
    first | exact ⟨_, _, _, rfl, rfl, .inl rfl, HBE2.out.alloc (HBE2.out.size) _⟩ | exact ⟨_, _, ⟨_, rfl⟩, rfl, .inl rfl, HBE2.out.alloc (HBE2.out.size) _⟩ | exact ⟨_, ⟨_, rfl⟩, .inl rfl, HBE2.out.alloc (HBE2.out.size) _⟩ | exact ⟨⟨_, _, _, rfl, rfl, .inl rfl⟩, HBE2.out.alloc (HBE2.out.size) _⟩
end Go.Proofs.Yteepbmgdjghfjaa
