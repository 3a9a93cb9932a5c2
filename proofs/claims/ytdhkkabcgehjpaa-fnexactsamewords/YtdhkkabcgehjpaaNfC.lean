/-
  Automata that come in, that are owned, held against one another, marked and held: szNfa, toNfa, eqNfa, markNfa, heldNfa; out of their reading.
-/
import Derived.Test.YtdhkkabcgehjpaaNfA
import Derived.Deep.DeepCutAuto
import Derived.Deep.CutBlock
namespace Go.Proofs.Ytdhkkabcgehjpaa
open Go.RowKit

/-- an automaton's arcs and ends, somewhere between lo and hi -/
def NfaIn (lo hi : Nat) (w : World) (a b : Option Addr) (l : List Ed) (e : List Bool) : Prop := EdgesIn lo hi w a l ∧ BlsIn lo hi w b e
/-- owned, and its two lists apart -/
def NfaOwn (lo hi : Nat) (w : World) (a b : Option Addr) (l : List Ed) (e : List Bool) : Prop := ∃ md, lo ≤ md ∧ md ≤ hi ∧ EdgesOwn lo md w a l ∧ BlsOwn md hi w b e
theorem NfaIn.below {lo hi B : Nat} {w w' : World} {a b : Option Addr} {l : List Ed} {e : List Bool} (h : NfaIn lo hi w a b l e) (hb : Below B w w') (hB : hi ≤ B) : NfaIn lo hi w' a b l e := ⟨h.1.below hb hB, h.2.below hb hB⟩
theorem NfaIn.wide {lo hi lo' hi' : Nat} {w : World} {a b : Option Addr} {l : List Ed} {e : List Bool} (h : NfaIn lo hi w a b l e) (h1 : lo' ≤ lo) (h2 : hi ≤ hi') : NfaIn lo' hi' w a b l e := ⟨h.1.wide h1 h2, h.2.wide h1 h2⟩
theorem NfaIn.kept {lo hi : Nat} {p : Nat → Prop} {w w' : World} {a b : Option Addr} {l : List Ed} {e : List Bool} (h : NfaIn lo hi w a b l e) (hk : KeptP p w w') (hh : hi ≤ w.heap.size) (hp : ∀ k, lo ≤ k → k < hi → ¬ p k) : NfaIn lo hi w' a b l e := ⟨h.1.kept hk hh hp, h.2.kept hk hh hp⟩
theorem NfaOwn.toIn {lo hi : Nat} {w : World} {a b : Option Addr} {l : List Ed} {e : List Bool} (h : NfaOwn lo hi w a b l e) : NfaIn lo hi w a b l e := by
  obtain ⟨md, h1, h2, h3, h4⟩ := h
  exact ⟨h3.toIn.wide (Nat.le_refl _) h2, h4.toIn.wide h1 (Nat.le_refl _)⟩
theorem NfaOwn.below {lo hi B : Nat} {w w' : World} {a b : Option Addr} {l : List Ed} {e : List Bool} (h : NfaOwn lo hi w a b l e) (hb : Below B w w') (hB : hi ≤ B) : NfaOwn lo hi w' a b l e := by
  obtain ⟨md, h1, h2, h3, h4⟩ := h
  exact ⟨md, h1, h2, h3.below hb (by omega), h4.below hb hB⟩
theorem NfaOwn.wide {lo hi lo' hi' : Nat} {w : World} {a b : Option Addr} {l : List Ed} {e : List Bool} (h : NfaOwn lo hi w a b l e) (h1 : lo' ≤ lo) (h2 : hi ≤ hi') : NfaOwn lo' hi' w a b l e := by
  obtain ⟨md, h3, h4, h5, h6⟩ := h
  exact ⟨md, by omega, by omega, h5.wide h1 (Nat.le_refl _), h6.wide (Nat.le_refl _) h2⟩
theorem NfaOwn.kept {lo hi : Nat} {p : Nat → Prop} {w w' : World} {a b : Option Addr} {l : List Ed} {e : List Bool} (h : NfaOwn lo hi w a b l e) (hk : KeptP p w w') (_hh : hi ≤ w.heap.size) (hp : ∀ k, lo ≤ k → k < hi → ¬ p k) : NfaOwn lo hi w' a b l e := by
  obtain ⟨md, h3, h4, h5, h6⟩ := h
  exact ⟨md, h3, h4, h5.kept hk (fun k h1 h2 => hp k h1 (by omega)), h6.kept hk (fun k h1 h2 => hp k (by omega) h2)⟩

set_option maxHeartbeats 400000 in
theorem szNfa_any (s : Int) (a b : Option Addr) (n cap m mc L : Nat) (w : World) (hm : n ≤ 9223372036854775807) (hm2 : m ≤ 9223372036854775807) (hL : L ≤ 1048576) :
    Calls Try.prog 7 #[nv s a n cap b m mc, .int .i64 (L : Int)] w fun e w' => ∃ x : Int, e = .returned (.int .i64 x) ∧ Hid (x < 0 ∨ ((n + m : Nat) : Int) + x = L) ∧ Hid (Below w.heap.size w w') := by
  by_cases h : n ≤ L
  · have hn : ¬ ((L - n : Nat) : Int) < 0 := by omega
    by_cases h2 : m ≤ L - n
    · have hn2 : ¬ ((L - n - m : Nat) : Int) < 0 := by omega
      go_enter Try.func7, Try.ntmps7
      go_wp2_with fail
      refine (szArcs_yes a n cap L _ hm hL h).mono ?_
      rintro e w' ⟨rfl, rfl⟩
      go_wp2_with fail
      refine (szBools_yes b m mc (L - n) _ hm2 (by omega) h2).mono ?_
      rintro e w' ⟨rfl, rfl⟩
      go_wp2
      go_ret
      exact ⟨_, rfl, .inr (by omega), (Below.refl _ _).alloc (Nat.le_refl _) _⟩
    · go_enter Try.func7, Try.ntmps7
      go_wp2_with fail
      refine (szArcs_yes a n cap L _ hm hL h).mono ?_
      rintro e w' ⟨rfl, rfl⟩
      go_wp2_with fail
      refine (szBools_no b m mc (L - n) _ hm2 (by omega) (by omega)).mono ?_
      rintro e w' ⟨rfl, rfl⟩
      go_wp2
      go_ret
      exact ⟨-1, rfl, .inl (by omega), (Below.refl _ _).alloc (Nat.le_refl _) _⟩
  · go_enter Try.func7, Try.ntmps7
    go_wp2_with fail
    refine (szArcs_no a n cap L _ hm hL (by omega)).mono ?_
    rintro e w' ⟨rfl, rfl⟩
    go_wp2
    go_ret
    exact ⟨-1, rfl, .inl (by omega), (Below.refl _ _).alloc (Nat.le_refl _) _⟩

set_option maxHeartbeats 2000000 in
set_option maxRecDepth 100000 in
theorem toNfa_any (lo hi : Nat) (s : Int) (a b : Option Addr) (n cap m mc : Nat) (l : List Ed) (q : List Bool) (w : World) (ha : NfaIn lo hi w a b l q) (hh : hi ≤ w.heap.size) (hn : l.length = n) (hn2 : q.length = m) (hm : n ≤ 1048576) (hm2 : m ≤ 1048576) :
    Calls Try.prog 9 #[nv s a n cap b m mc] w fun e w' => ∃ g g' : Nat, e = .returned (nv s (some ⟨g, 0, none⟩) n n (some ⟨g', 0, none⟩) m m) ∧ Hid (NfaOwn w.heap.size w'.heap.size w' (some ⟨g, 0, none⟩) (some ⟨g', 0, none⟩) l q) ∧ Hid (Below w.heap.size w w') := by
  have HA : Hid (NfaIn lo hi w a b l q) := ha
  have HH : Hid (hi ≤ w.heap.size) := hh
  have HN : Hid (l.length = n) := hn
  have HN2 : Hid (q.length = m) := hn2
  clear ha hh hn hn2
  obtain ⟨B, HB⟩ : ∃ B, Hid (B = w.heap.size) := ⟨_, rfl⟩
  obtain ⟨W, HW⟩ : ∃ W, Hid (W = ((w.alloc (.cells #[.int .i64 s, .slice a n cap, .slice b m mc] 25)).alloc (.cells #[.int .i64 0, .slice none 0 0, .slice none 0 0] 30)).alloc (.cells #[.int .i64 s, .slice none 0 0, .slice none 0 0] 30)) := ⟨_, rfl⟩
  have HBW : Hid (Below w.heap.size w W) := by rw [HW.out]; exact below3 w _ _ _
  have HSW : Hid (W.heap.size = B + 3) := by rw [HW.out, HB.out]; show _ = _; simp
  have H0 : Hid (Blk W B 3 (nf s a n cap b m mc)) := by rw [HW.out]; exact ((blk_nf w B HB.out _ _ _ _ _ _ _ _).alloc _).alloc _
  have H1 : Hid (Blk W (B + 1) 3 (nf 0 none 0 0 none 0 0)) := by rw [HW.out]; exact (blk_nf _ (B + 1) (by rw [HB.out]; simp) _ _ _ _ _ _ _ _).alloc _
  have H2 : Hid (Blk W (B + 1 + 1) 3 (nf s none 0 0 none 0 0)) := by rw [HW.out]; exact blk_nf _ (B + 1 + 1) (by rw [HB.out]; simp) _ _ _ _ _ _ _ _
  obtain ⟨c0, c1, c2⟩ := nf_cells H0.out
  obtain ⟨d0, d1, d2⟩ := nf_cells H2.out
  go_enter Try.func9, Try.ntmps9
  go_upto_region 3 with fail
  rw [← HB.out, ← HW.out]
  clear HW
  go_wp2_with fail
  refine (toArcs_any lo hi a n cap l W (HA.out.1.below HBW.out HH.out) (Nat.le_trans HH.out HBW.out.size) HN.out hm).mono ?_
  rintro e w1 ⟨g, rfl, HX1, HB1⟩
  have H01 : Hid (Blk w1 B 3 (nf s a n cap b m mc)) := H0.out.of_block (HB1.out.block _ H0.out.lt)
  have H11 : Hid (Blk w1 (B + 1) 3 (nf 0 none 0 0 none 0 0)) := H1.out.of_block (HB1.out.block _ H1.out.lt)
  have H21 : Hid (Blk w1 (B + 1 + 1) 3 (nf s none 0 0 none 0 0)) := H2.out.of_block (HB1.out.block _ H2.out.lt)
  have HBE1 : Hid (Below w.heap.size w w1) := HBW.out.trans (HB1.out.mono HBW.out.size)
  clear c0 c1 c2 d0 d1 d2
  obtain ⟨c0, c1, c2⟩ := nf_cells H01.out
  obtain ⟨d0, d1, d2⟩ := nf_cells H21.out
  have f1 := Blk.frozen H21.out 1
  obtain ⟨V, HV⟩ : ∃ V, Hid (V = w1.setCell ⟨B + 1 + 1, 1, none⟩ (.slice (some ⟨g, 0, none⟩) n n)) := ⟨_, rfl⟩
  have HBV : Hid (Below w.heap.size w V) := by rw [HV.out]; exact HBE1.out.setCell (by show _ ≤ B + 1 + 1; have := HB.out; omega) _
  have H0V : Hid (Blk V B 3 (nf s a n cap b m mc)) := by rw [HV.out]; exact H01.out.of_block (Below.heap_setCell _ _ _ _ (by simp; omega))
  have H1V : Hid (Blk V (B + 1) 3 (nf 0 none 0 0 none 0 0)) := by rw [HV.out]; exact H11.out.of_block (Below.heap_setCell _ _ _ _ (by simp))
  have H2V : Hid (Blk V (B + 1 + 1) 3 (nf s (some ⟨g, 0, none⟩) n n none 0 0)) := by
    rw [HV.out]
    exact (Blk.set H21.out 1 (by omega) _).congr fun i hi => by
      rcases i with _ | _ | _ | i
      · rfl
      · rfl
      · rfl
      · omega
  have HXV : Hid (EdgesOwn (B + 3) w1.heap.size V (some ⟨g, 0, none⟩) l) := by
    rw [HV.out, ← HSW.out]; exact HX1.out.setCell (by have := HSW.out; omega) _
  have HSV : Hid (V.heap.size = w1.heap.size) := by rw [HV.out]; show _ = _; simp
  go_upto_region 4 with fail
  rw [← HV.out]
  clear c0 c1 c2 d0 d1 d2 HV f1
  obtain ⟨c0, c1, c2⟩ := nf_cells H0V.out
  go_wp2_with fail
  refine (toBL lo hi b m mc q V (HA.out.2.below HBV.out HH.out) (Nat.le_trans HH.out HBV.out.size) HN2.out hm2).mono ?_
  rintro e w2 ⟨g', rfl, HY2, HB2⟩
  have H12 : Hid (Blk w2 (B + 1) 3 (nf 0 none 0 0 none 0 0)) := H1V.out.of_block (HB2.out.block _ H1V.out.lt)
  have H22 : Hid (Blk w2 (B + 1 + 1) 3 (nf s (some ⟨g, 0, none⟩) n n none 0 0)) := H2V.out.of_block (HB2.out.block _ H2V.out.lt)
  have HX2 : Hid (EdgesOwn (B + 3) w1.heap.size w2 (some ⟨g, 0, none⟩) l) := HXV.out.below HB2.out (by have := HSV.out; omega)
  have HY3 : Hid (BlsOwn w1.heap.size w2.heap.size w2 (some ⟨g', 0, none⟩) q) := by rw [← HSV.out]; exact HY2.out
  have HBE2 : Hid (Below w.heap.size w w2) := HBV.out.trans (HB2.out.mono HBV.out.size)
  have HSZ : Hid (B + 3 ≤ w1.heap.size ∧ w1.heap.size ≤ w2.heap.size) := ⟨by have := HB1.out.size; have := HSW.out; omega, by have := HB2.out.size; have := HSV.out; omega⟩
  clear c0 c1 c2
  obtain ⟨e0, e1, e2⟩ := nf_cells H12.out
  obtain ⟨d0, d1, d2⟩ := nf_cells H22.out
  have f2 := Blk.frozen H22.out 2
  have f3 := Blk.frozen H12.out 0
  have f4 := Blk.frozen H12.out 1
  have f5 := Blk.frozen H12.out 2
  go_wp2
  refine bodyPost_ret (v := nv s (some ⟨g, 0, none⟩) n n (some ⟨g', 0, none⟩) m m) (by simp [results, Try.results9, go_sem, e0, e1, e2]) rfl ?_
  refine ⟨g, g', rfl, ⟨w1.heap.size, ?_, ?_, ?_, ?_⟩, ?_⟩
  · have := HSZ.out; have := HB.out; omega
  · have := HSZ.out; simp; omega
  · exact ((((HX2.out.setCell (b := B + 1 + 1) (by omega) _).setCell (b := B + 1) (by omega) _).setCell (b := B + 1) (by omega) _).setCell (b := B + 1) (by omega) _).wide (by have := HB.out; omega) (Nat.le_refl _)
  · have hs := HSZ.out
    exact ((((HY3.out.setCellP (b := B + 1 + 1) (by omega) _).setCellP (b := B + 1) (by omega) _).setCellP (b := B + 1) (by omega) _).setCellP (b := B + 1) (by omega) _).wide (Nat.le_refl _) (by simp)
  · have hb := HB.out
    exact (((HBE2.out.setCell (by show _ ≤ B + 1 + 1; omega) _).setCell (by show _ ≤ B + 1; omega) _).setCell (by show _ ≤ B + 1; omega) _).setCell (by show _ ≤ B + 1; omega) _

set_option maxHeartbeats 1000000 in
set_option maxRecDepth 100000 in
theorem eqNfa_any (lo hi lo' hi' : Nat) (s s' : Int) (a a' b b' : Option Addr) (n n' cap cap' m m' mc mc' : Nat) (l l' : List Ed) (q q' : List Bool) (r : Bool) (w : World) (ha : NfaIn lo hi w a b l q) (hb : NfaIn lo' hi' w a' b' l' q') (hh : hi ≤ w.heap.size) (hh' : hi' ≤ w.heap.size) (hn : l.length = n) (hn' : l'.length = n') (hm : n ≤ 1048576) (hq : q.length = m) (hq' : q'.length = m') (hm2 : m ≤ 1048576) (hr : r = decide (s = s' ∧ l = l' ∧ q = q')) :
    Calls Try.prog 11 #[nv s a n cap b m mc, nv s' a' n' cap' b' m' mc'] w fun e w' => e = .returned (.bool r) ∧ Hid (Below w.heap.size w w') := by
  obtain ⟨u, HU⟩ : ∃ u : Bool, Hid (u = decide (l = l')) := ⟨_, rfl⟩
  obtain ⟨v, HV⟩ : ∃ v : Bool, Hid (v = decide (q = q')) := ⟨_, rfl⟩
  have HC : Hid (∀ w0, Below w.heap.size w w0 → Calls Try.prog 37 #[.slice a n cap, .slice a' n' cap'] w0 fun e w' => e = .returned (.bool u) ∧ Hid (Below w0.heap.size w0 w')) := fun w0 h =>
    eqArcs_any lo hi lo' hi' a a' n n' cap cap' l l' u w0 (ha.1.below h hh) (hb.1.below h hh') (Nat.le_trans hh h.size) (Nat.le_trans hh' h.size) hn hn' hm HU.out
  have HD : Hid (∀ w0, Below w.heap.size w w0 → Calls Try.prog 38 #[.slice b m mc, .slice b' m' mc'] w0 fun e w' => e = .returned (.bool v) ∧ Hid (Below w0.heap.size w0 w')) := fun w0 h =>
    (eqBools_any lo hi lo' hi' b b' m m' mc mc' q q' v w0 (ha.2.below h hh) (hb.2.below h hh') hq hq' hm2 HV.out).mono fun _ _ ⟨h1, h2⟩ => ⟨h1, h2⟩
  have HR : Hid (r = decide (s = s' ∧ l = l' ∧ q = q')) := hr
  clear ha hb hh hh' hn hn' hr hm hq hq' hm2
  by_cases he : s = s'
  · subst he
    have HR2 : Hid (r = (u && v)) := by show _ = _; rw [HR.out, HU.out, HV.out]; simp
    clear HR
    obtain ⟨W, HW⟩ : ∃ W, Hid (W = (w.alloc (.cells #[.int .i64 s, .slice a n cap, .slice b m mc] 30)).alloc (.cells #[.int .i64 s, .slice a' n' cap', .slice b' m' mc'] 30)) := ⟨_, rfl⟩
    obtain ⟨B, HB⟩ : ∃ B, Hid (B = w.heap.size) := ⟨_, rfl⟩
    have HBW : Hid (Below w.heap.size w W) := by rw [HW.out]; exact below2 w _ _
    have H0 : Hid (Blk W B 3 (nf s a n cap b m mc)) := by rw [HW.out]; exact (blk_nf w B HB.out _ _ _ _ _ _ _ _).alloc _
    have H1 : Hid (Blk W (B + 1) 3 (nf s a' n' cap' b' m' mc')) := by rw [HW.out]; exact blk_nf _ (B + 1) (by rw [HB.out]; simp) _ _ _ _ _ _ _ _
    obtain ⟨c0, c1, c2⟩ := nf_cells H0.out
    obtain ⟨d0, d1, d2⟩ := nf_cells H1.out
    go_enter Try.func11, Try.ntmps11
    go_upto_region 3 with fail
    rw [← HB.out, ← HW.out]
    clear HW
    go_wp2_with fail
    refine (HC.out _ HBW.out).mono ?_
    rintro e w1 ⟨rfl, HB1⟩
    have HBE1 : Hid (Below w.heap.size w w1) := HBW.out.trans (HB1.out.mono HBW.out.size)
    rcases Bool.eq_false_or_eq_true u with hu | hu
    · subst hu
      have HR3 : Hid (r = v) := by show _ = _; rw [HR2.out]; simp
      have H01 : Hid (Blk w1 B 3 (nf s a n cap b m mc)) := H0.out.of_block (HB1.out.block _ H0.out.lt)
      have H11 : Hid (Blk w1 (B + 1) 3 (nf s a' n' cap' b' m' mc')) := H1.out.of_block (HB1.out.block _ H1.out.lt)
      clear c0 c1 c2 d0 d1 d2
      obtain ⟨c0, c1, c2⟩ := nf_cells H01.out
      obtain ⟨d0, d1, d2⟩ := nf_cells H11.out
      go_wp2_with fail
      refine (HD.out _ HBE1.out).mono ?_
      rintro e w2 ⟨rfl, HB2⟩
      have HBE2 : Hid (Below w.heap.size w w2) := HBE1.out.trans (HB2.out.mono HBE1.out.size)
      rcases Bool.eq_false_or_eq_true v with hv | hv
      all_goals
        subst hv
        go_wp2
        go_ret
        exact ⟨by rw [HR3.out]; rfl, HBE2⟩
    · subst hu
      have HR3 : Hid (r = false) := by show _ = _; rw [HR2.out]; simp
      go_wp2
      go_ret
      exact ⟨by rw [HR3.out]; rfl, HBE1⟩
  · have hne : decide (s = s') = false := decide_eq_false he
    obtain rfl : r = false := by rw [HR.out]; simp [he]
    go_enter Try.func11, Try.ntmps11
    go_wp2
    go_ret
    exact ⟨rfl, below2 w _ _⟩

set_option maxHeartbeats 1000000 in
theorem markNfa_any (lo hi : Nat) (s : Int) (a b : Option Addr) (n cap m mc K : Nat) (l : List Ed) (q : List Bool) (w : World) (ha : NfaOwn lo hi w a b l q) (hh : hi ≤ w.heap.size) (hn : l.length = n) (hq : q.length = m) (hm : n ≤ 1048576) (hm2 : m ≤ 1048576) (hK : K ≤ 1048576) :
    Calls Try.prog 19 #[nv s a n cap b m mc, .int .i64 (K : Int)] w fun e w' => ∃ x : Nat, e = .returned (.int .i64 (x : Int)) ∧ Hid (x = K + n * 3 + m) ∧ Hid (NfaOwn lo hi w' a b (marksE K n) (marksB (K + n * 3) m)) ∧ Hid (KeptP (fun c => lo ≤ c ∧ c < hi) w w') := by
  obtain ⟨md, h1, h2, h3, h4⟩ := ha
  have HA : Hid (EdgesOwn lo md w a l) := h3
  have HQ : Hid (BlsOwn md hi w b q) := h4
  have HX : Hid (lo ≤ md ∧ md ≤ hi ∧ hi ≤ w.heap.size) := ⟨h1, h2, hh⟩
  have HN : Hid (l.length = n) := hn
  have HN2 : Hid (q.length = m) := hq
  clear h1 h2 h3 h4 hn hq hh
  obtain ⟨B, HB⟩ : ∃ B, Hid (B = w.heap.size) := ⟨_, rfl⟩
  obtain ⟨W, HW⟩ : ∃ W, Hid (W = w.alloc (.cells #[.int .i64 s, .slice a n cap, .slice b m mc] 30)) := ⟨_, rfl⟩
  have HBW : Hid (Below w.heap.size w W) := by rw [HW.out]; exact below1 w _
  have H0 : Hid (Blk W B 3 (nf s a n cap b m mc)) := by rw [HW.out]; exact blk_nf w B HB.out _ _ _ _ _ _ _ _
  obtain ⟨c0, c1, c2⟩ := nf_cells H0.out
  go_enter Try.func19, Try.ntmps19
  go_upto_region 1 with fail
  rw [← HB.out, ← HW.out]
  clear HW
  go_wp2_with fail
  refine (markArcs_any lo md a n cap K l W (HA.out.below HBW.out (by have := HX.out; omega)) HN.out hm (by omega)).mono ?_
  rintro e w1 ⟨rfl, HA1, HK1⟩
  obtain ⟨K2, HK2⟩ : ∃ K2, Hid (K2 = K + n * 3) := ⟨_, rfl⟩
  rw [← HK2.out]
  have H01 : Hid (Blk w1 B 3 (nf s a n cap b m mc)) := HK1.out.blk H0.out (by have := HX.out; have := HB.out; omega)
  have HQ1 : Hid (BlsOwn md hi w1 b q) := (HQ.out.below HBW.out HX.out.2.2).kept HK1.out (fun k h1 h2 h3 => by omega)
  clear c0 c1 c2
  obtain ⟨c0, c1, c2⟩ := nf_cells H01.out
  go_wp2_with fail
  refine (markBools_any (fun c => md ≤ c ∧ c < hi) md hi b m mc K2 q w1 HQ1.out HN2.out hm2 (by have := HK2.out; omega) ?_).mono ?_
  · intro g hg hne
    rcases HQ1.out with h | ⟨g', e, h1, h2, _⟩
    · exact absurd h hne
    · rw [hg] at e; simp at e; subst e; exact ⟨h1, h2⟩
  rintro e w2 ⟨rfl, h5, h6, _⟩
  have HQ2 : Hid (BlsOwn md hi w2 b (marksB K2 m)) := h5
  have HK3 : Hid (KeptP (fun c => md ≤ c ∧ c < hi) w1 w2) := h6
  clear h5 h6
  obtain ⟨x, HXX⟩ : ∃ x, Hid (x = K2 + m) := ⟨_, rfl⟩
  rw [← HXX.out]
  go_wp2
  go_ret
  refine ⟨x, rfl, by show x = _; rw [HXX.out, HK2.out], ⟨md, HX.out.1, HX.out.2.1, HA1.out.kept HK3.out (fun k h1 h2 h3 => by omega), by rw [← HK2.out]; exact HQ2.out⟩, ?_⟩
  exact (KeptP.of_below HBW.out (fun k hk _ => hk)).trans ((HK1.out.mono (fun k hk => ⟨hk.1, by have := HX.out; omega⟩)).trans (HK3.out.mono (fun k hk => ⟨by have := HX.out; omega, hk.2⟩)))

set_option maxHeartbeats 1000000 in
theorem heldNfa_any (lo hi : Nat) (s : Int) (a b : Option Addr) (n cap m mc K : Nat) (w : World) (ha : NfaIn lo hi w a b (marksE K n) (marksB (K + n * 3) m)) (hh : hi ≤ w.heap.size) (hm : n ≤ 1048576) (hm2 : m ≤ 1048576) (hK : K ≤ 1048576) :
    Calls Try.prog 24 #[nv s a n cap b m mc, .int .i64 (K : Int)] w fun e w' => ∃ x : Nat, e = .returned (.int .i64 (x : Int)) ∧ Hid (x = K + n * 3 + m) ∧ Hid (Below w.heap.size w w') := by
  have HA : Hid (NfaIn lo hi w a b (marksE K n) (marksB (K + n * 3) m)) := ha
  have HH : Hid (hi ≤ w.heap.size) := hh
  clear ha hh
  obtain ⟨B, HB⟩ : ∃ B, Hid (B = w.heap.size) := ⟨_, rfl⟩
  obtain ⟨W, HW⟩ : ∃ W, Hid (W = w.alloc (.cells #[.int .i64 s, .slice a n cap, .slice b m mc] 30)) := ⟨_, rfl⟩
  have HBW : Hid (Below w.heap.size w W) := by rw [HW.out]; exact below1 w _
  have H0 : Hid (Blk W B 3 (nf s a n cap b m mc)) := by rw [HW.out]; exact blk_nf w B HB.out _ _ _ _ _ _ _ _
  obtain ⟨c0, c1, c2⟩ := nf_cells H0.out
  go_enter Try.func24, Try.ntmps24
  go_upto_region 1 with fail
  rw [← HB.out, ← HW.out]
  clear HW
  go_wp2_with fail
  refine (heldArcs_any lo hi a n cap K W (HA.out.1.below HBW.out HH.out) hm (by omega)).mono ?_
  rintro e w1 ⟨rfl, rfl⟩
  obtain ⟨K2, HK2⟩ : ∃ K2, Hid (K2 = K + n * 3) := ⟨_, rfl⟩
  rw [← HK2.out] at HA ⊢
  have hk2 : ¬ (K2 : Int) < 0 := by omega
  go_wp2_with fail
  refine (heldBools_any lo hi b m mc K2 _ (HA.out.2.below HBW.out HH.out) hm2 (by have := HK2.out; omega)).mono ?_
  rintro e w2 ⟨rfl, rfl⟩
  obtain ⟨x, HXX⟩ : ∃ x, Hid (x = K2 + m) := ⟨_, rfl⟩
  rw [← HXX.out]
  have hk3 : ¬ (x : Int) < 0 := by omega
  go_wp2
  go_ret
  exact ⟨x, rfl, by show x = _; rw [HXX.out, HK2.out], HBW⟩

open Go.ChangeShapes Go.WideShapes Go.ChangeAt Go.Deep in
set_option maxRecDepth 100000 in
/-- bools that came in, out of their reading -/
theorem bools_trod {H : Type} {enc : TypeId × Value → H} {W : World} {fuel : Nat} {v : Value} {x : DataW H × List MemPlace}
    (hf : DataW.trod enc Try.prog W 0 (fun _ => true) true fuel 23 [v] = some x) : ∃ (ao : Option Addr) (n cap : Nat) (l : List Bool), v = .slice ao n cap ∧ n ≤ maxLen ∧ l.length = n ∧ BlsIn 0 W.heap.size W ao l := by
  rcases open_slice Try.underlying23 hf with ⟨hcs, _⟩ | ⟨a, len, cap, m, n, D, Pl, hcs, _, hl, hm, hmm, _, hx⟩
  · simp at hcs
    subst hcs
    exact ⟨none, 0, 0, [], rfl, Nat.zero_le _, rfl, .inl rfl⟩
  · simp at hcs
    subst hcs
    have ce : Try.prog.cellsOf 4 = 1 := by kernel_rfl
    have hlm : len ≤ m := by rw [hmm]; simp; exact hl
    have each : ∀ i, i < len → ∃ q : Bool, W.cell? (a.add i) = some (.bool q) := by
      intro i hi
      obtain ⟨cs', h1, h2⟩ := hx i (by omega)
      rw [ce] at h1
      obtain ⟨_, hlen, hcell⟩ := World.cells?_some h1
      match cs', hlen with
      | [v0], _ =>
        obtain ⟨z0, e0, _⟩ := DataW.trod_bool Try.underlying4 h2
        simp at e0
        have q0 := hcell 0 (by omega)
        subst e0
        exact ⟨z0, by rw [add_add] at q0; simpa using q0⟩
    obtain ⟨f, hfn⟩ := choose_lt each
    have hgd : ∀ i, i < len → ((List.range len).map f).getD i false = f i := fun i hi => by simp [List.getD, hi]
    refine ⟨some a, len, cap, (List.range len).map f, rfl, by omega, by simp, ?_⟩
    by_cases h0 : len = 0
    · exact .inl (by subst h0; rfl)
    · obtain ⟨b, off, spot⟩ := a
      have c0 := hfn 0 (by omega)
      obtain rfl := spot_none (by simpa using c0)
      rw [add_none] at c0
      refine .inr ⟨b, off, rfl, Nat.zero_le _, lt_of_cell c0, fun i hi => ?_⟩
      simp at hi
      have c0 := hfn i hi
      rw [add_none] at c0
      rw [hgd i hi]
      exact c0
theorem cellsNfa : Try.prog.cellsOf 25 = 3 := by kernel_rfl
open Go.ChangeShapes Go.WideShapes Go.ChangeAt Go.Deep in
set_option maxRecDepth 100000 in
/-- an automaton that came in, out of its reading -/
theorem nfa_in {H : Type} {enc : TypeId × Value → H} {W : World} {r : Reach} {b0 : Nat} {v : Value} {d : DataW H} {ps : List MemPlace} (hv : Value.okWide Try.prog W r b0 25 v)
    (h : DataW.Trod enc Try.prog W 0 (fun _ => true) true 25 v d ps) : ∃ (s : Int) (ao : Option Addr) (n cap : Nat) (l : List Ed) (bo : Option Addr) (m mc : Nat) (q : List Bool), v = nv s ao n cap bo m mc ∧ n ≤ maxLen ∧ l.length = n ∧ m ≤ maxLen ∧ q.length = m ∧ NfaIn 0 W.heap.size W ao bo l q := by
  obtain ⟨cs, rfl, hsz⟩ := okWide_struct Try.underlying25 hv
  have h1 : cs.size = 3 := hsz.trans cellsNfa
  obtain ⟨v0, v1, v2, rfl⟩ : ∃ v0 v1 v2, cs = #[v0, v1, v2] := by
    refine ⟨cs[0], cs[1], cs[2], ?_⟩
    apply Array.ext (by simpa using h1)
    intro i hi hi'
    simp at hi'
    rcases (show i = 0 ∨ i = 1 ∨ i = 2 by omega) with rfl | rfl | rfl <;> rfl
  obtain ⟨fuel, hf⟩ := h
  obtain ⟨y0, y1, y2, k, _, _, g0, g1, g2⟩ := trod_struct3 Try.underlying25 hf
  have c3 : Try.prog.cellsOf 3 = 1 := by kernel_rfl
  have c85 : Try.prog.cellsOf 22 = 1 := by kernel_rfl
  have c48 : Try.prog.cellsOf 23 = 1 := by kernel_rfl
  have h0' : DataW.trod enc Try.prog W 0 (fun _ => true) true k 3 [v0] = some y0 := by simpa [Value.cells, c3] using g0
  have h1' : DataW.trod enc Try.prog W 0 (fun _ => true) true k 22 [v1] = some y1 := by simpa [Value.cells, c3, c85] using g1
  have h2' : DataW.trod enc Try.prog W 0 (fun _ => true) true k 23 [v2] = some y2 := by simpa [Value.cells, c3, c85, c48] using g2
  obtain ⟨z, e, _, _⟩ := DataW.trod_int Try.underlying3 h0'
  simp at e
  obtain ⟨ao, n', cap, l, rfl, hm, hl, hb⟩ := arcs_trod h1'
  obtain ⟨bo, m', mc, q, rfl, hm2, hl2, hb2⟩ := bools_trod h2'
  subst e
  exact ⟨z, ao, n', cap, l, bo, m', mc, q, rfl, hm, hl, hm2, hl2, hb, hb2⟩
end Go.Proofs.Ytdhkkabcgehjpaa
