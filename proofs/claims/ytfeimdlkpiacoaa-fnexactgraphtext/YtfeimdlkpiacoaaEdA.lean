/-
  Edges: how two are compared; cmp.Or, compareEdges, impl.EdgeLess, spec.EdgeLess, isVertex, edgeOk.
-/
import Derived.Test.YtfeimdlkpiacoaaOk
import Derived.Deep.RegionHeld3
namespace Go.Proofs.Ytfeimdlkpiacoaa
open Go.RowKit

/-- an edge: From, Label, To -/
abbrev Ed := Int × Int × Int
/-- an edge as a value -/
abbrev ev (x : Ed) : Value := .agg #[.int .i64 x.1, .int .u8 x.2.1, .int .i64 x.2.2]
def orI (a b : Int) : Int := if a = 0 then b else a
def cmpE (x y : Ed) : Int := orI (cmpI x.1 y.1) (orI (cmpI x.2.1 y.2.1) (cmpI x.2.2 y.2.2))
def ltE (x y : Ed) : Bool := decide (cmpE x y < 0)

set_option maxHeartbeats 400000 in
theorem isNaN8_any (x : Int) (w : World) : Calls Try.prog 84 #[.int .u8 x] w fun e w' => e = .returned (.bool false) ∧ w = w' := by
  go_enter Try.func84, Try.ntmps84
  go_wp2
  go_ret
  exact ⟨rfl, rfl⟩

set_option maxHeartbeats 400000 in
theorem compare8_any (x y : Int) (w : World) : Calls Try.prog 67 #[.int .u8 x, .int .u8 y] w fun e w' => e = .returned (.int .i64 (cmpI x y)) ∧ w = w' := by
  by_cases h1 : x < y
  · have hd : decide (x < y) = true := decide_eq_true h1
    have hr : cmpI x y = -1 := by unfold cmpI; rw [if_pos h1]
    rw [hr]
    clear hr
    go_enter Try.func67, Try.ntmps67
    go_wp2_with fail
    refine (isNaN8_any x w).mono ?_
    rintro e w' ⟨rfl, rfl⟩
    go_wp2_with fail
    refine (isNaN8_any y w).mono ?_
    rintro e w' ⟨rfl, rfl⟩
    go_wp2
    go_ret
    exact ⟨rfl, rfl⟩
  · have hd : decide (x < y) = false := decide_eq_false h1
    by_cases h2 : y < x
    · have hd2 : decide (y < x) = true := decide_eq_true h2
      have hr : cmpI x y = 1 := by unfold cmpI; rw [if_neg h1, if_pos h2]
      rw [hr]
      clear hr
      go_enter Try.func67, Try.ntmps67
      go_wp2_with fail
      refine (isNaN8_any x w).mono ?_
      rintro e w' ⟨rfl, rfl⟩
      go_wp2_with fail
      refine (isNaN8_any y w).mono ?_
      rintro e w' ⟨rfl, rfl⟩
      go_wp2
      go_ret
      exact ⟨rfl, rfl⟩
    · have hd2 : decide (y < x) = false := decide_eq_false h2
      have hr : cmpI x y = 0 := by unfold cmpI; rw [if_neg h1, if_neg h2]
      rw [hr]
      clear hr
      go_enter Try.func67, Try.ntmps67
      go_wp2_with fail
      refine (isNaN8_any x w).mono ?_
      rintro e w' ⟨rfl, rfl⟩
      go_wp2_with fail
      refine (isNaN8_any y w).mono ?_
      rintro e w' ⟨rfl, rfl⟩
      go_wp2
      go_ret
      exact ⟨rfl, rfl⟩

theorem orI_z {a b : Int} (h : a = 0) : orI a b = b := by unfold orI; rw [if_pos h]
theorem orI_n {a b : Int} (h : ¬ a = 0) : orI a b = a := by unfold orI; rw [if_neg h]

/-- the first of so many that is not 0 -/
def firstN : List Int → Int
  | [] => 0
  | a :: l => orI a (firstN l)
theorem firstN_three (x y z : Int) : firstN [x, y, z] = orI x (orI y z) := by
  simp only [firstN, orI]; by_cases h : z = 0 <;> simp [h]

set_option maxHeartbeats 1000000 in
set_option maxRecDepth 100000 in
theorem cmpOr_any (b n cap : Nat) (l : List Int) (w : World) (hn : l.length = n) (hm : n ≤ 1048576) (hc : ∀ i, i < n → w.cell? ⟨b, i, none⟩ = some (.int .i64 (l.getD i 0))) :
    Calls Try.prog 65 #[.slice (some ⟨b, 0, none⟩) n cap] w fun e w' => (∃ r : Int, e = .returned (.int .i64 r) ∧ Hid (r = firstN l)) ∧ w = w' := by
  have HN : Hid (l.length = n) := hn
  have HC : Hid (∀ i, i < n → w.cell? ⟨b, i, none⟩ = some (.int .i64 (l.getD i 0))) := hc
  clear hn hc
  go_enter Try.func65, Try.ntmps65
  go_wp2
  go_loop [8] (fun i => ∃ k : Nat, i = .int .i64 k ∧ k ≤ n ∧ Hid (firstN l = firstN (l.drop k))) (fun i => n - (intOf i).toNat)
  case atStart => exact ⟨0, rfl, by omega, rfl⟩
  case round =>
    obtain ⟨k, rfl, hk, HE⟩ := hrel
    by_cases hlt : k < n
    · have hlt1 : (k : Int) < (n : Int) := by omega
      obtain ⟨x, HX⟩ : ∃ x, Hid (x = l.getD k 0) := ⟨_, rfl⟩
      have hca := HC.out k hlt
      rw [← HX.out] at hca
      have hz : (0 + k) = k := Nat.zero_add k
      have HS : Hid (firstN l = orI x (firstN (l.drop (k + 1)))) := by
        show _ = _
        have hkl : k < l.length := by rw [HN.out]; exact hlt
        rw [HE.out, List.drop_eq_getElem_cons hkl, firstN, HX.out]
        simp [List.getD, hkl]
      by_cases hx : x = 0
      · subst hx
        go_wp2
        go_roundw
        case rel => exact ⟨k + 1, by go_num, by omega, by show _ = _; rw [HS.out]; exact orI_z rfl⟩
        case measure => simp [intOf]; omega
      · go_wp2
        go_ret
        exact ⟨⟨x, rfl, by show _ = _; rw [HS.out, orI_n hx]⟩, rfl⟩
    · go_wp2
      go_ret
      refine ⟨⟨0, rfl, ?_⟩, rfl⟩
      show _ = _
      rw [HE.out, List.drop_of_length_le (by rw [HN.out]; omega)]; rfl

theorem box_cells (w : World) (x y z : Value) (T : TypeId) (b : Nat) (hb : b = w.heap.size) : (w.alloc (.cells #[x, y, z] T)).cell? ⟨b, 0, none⟩ = some x ∧ (w.alloc (.cells #[x, y, z] T)).cell? ⟨b, 1, none⟩ = some y ∧ (w.alloc (.cells #[x, y, z] T)).cell? ⟨b, 2, none⟩ = some z := by
  have h : (w.alloc (.cells #[x, y, z] T)).heap[b]? = some (.cells #[x, y, z] T) := by
    subst hb
    show (w.heap.push _)[w.heap.size]? = _
    simp
  simp [World.cell?, h]

theorem below_ad (w : World) (o : Obj) : Below w.heap.size w (w.alloc o).drew := (below1 w o).drew
theorem cmpOr_new (b : Nat) (x y z : Int) (w : World) (T : TypeId) (hb : b = w.heap.size) : Calls Try.prog 65 #[.slice (some ⟨b, 0, none⟩) 3 3] (w.alloc (.cells #[.int .i64 x, .int .i64 y, .int .i64 z] T)).drew fun e w' => ∃ r : Int, e = .returned (.int .i64 r) ∧ Hid (r = orI x (orI y z)) ∧ w' = (w.alloc (.cells #[.int .i64 x, .int .i64 y, .int .i64 z] T)).drew := by
  obtain ⟨h0, h1, h2⟩ := box_cells w (.int .i64 x) (.int .i64 y) (.int .i64 z) T b hb
  refine (cmpOr_any b 3 3 [x, y, z] _ rfl (by omega) (fun i hi => ?_)).mono fun e w' ⟨⟨r, h, hr⟩, h'⟩ => ⟨r, h, by show _ = _; rw [hr.out, firstN_three], h'.symm⟩
  rcases i with _ | _ | _ | i
  · exact h0
  · exact h1
  · exact h2
  · omega

set_option maxHeartbeats 4000000 in
set_option maxRecDepth 100000 in
theorem compareEdges_at (x y : Ed) (w : World) :
    Calls Try.prog 42 #[ev x, ev y] w fun e w' => ∃ (r : Int) (o1 o2 o3 : Obj), e = .returned (.int .i64 r) ∧ Hid (r = cmpE x y) ∧ Hid (w' = (((w.alloc o1).alloc o2).alloc o3).drew) := by
  obtain ⟨x0, x1, x2⟩ := x
  obtain ⟨y0, y1, y2⟩ := y
  obtain ⟨c0, H0⟩ : ∃ c, Hid (c = cmpI x0 y0) := ⟨_, rfl⟩
  obtain ⟨c1, H1⟩ : ∃ c, Hid (c = cmpI x1 y1) := ⟨_, rfl⟩
  obtain ⟨c2, H2⟩ : ∃ c, Hid (c = cmpI x2 y2) := ⟨_, rfl⟩
  have HE : Hid (cmpE (x0, x1, x2) (y0, y1, y2) = orI c0 (orI c1 c2)) := by show _ = _; rw [H0.out, H1.out, H2.out]; rfl
  have T1 : Hid (∀ w, Calls Try.prog 66 #[.int .i64 x0, .int .i64 y0] w fun e w' => e = .returned (.int .i64 c0) ∧ w' = w) := fun w => by rw [H0.out]; exact (compare_any x0 y0 w).mono fun _ _ h => ⟨h.1, h.2.symm⟩
  have T2 : Hid (∀ w, Calls Try.prog 66 #[.int .i64 x2, .int .i64 y2] w fun e w' => e = .returned (.int .i64 c2) ∧ w' = w) := fun w => by rw [H2.out]; exact (compare_any x2 y2 w).mono fun _ _ h => ⟨h.1, h.2.symm⟩
  have T3 : Hid (∀ w, Calls Try.prog 67 #[.int .u8 x1, .int .u8 y1] w fun e w' => e = .returned (.int .i64 c1) ∧ w' = w) := fun w => by rw [H1.out]; exact (compare8_any x1 y1 w).mono fun _ _ h => ⟨h.1, h.2.symm⟩
  clear H0 H1 H2
  have K1 : True := trivial
  have K2 : True := trivial
  go_enter Try.func42, Try.ntmps42
  go_wp2_with fail
  obtain ⟨W, HW⟩ : ∃ W, Hid (W = ((w.alloc (Obj.cells #[.int .i64 x0, .int .u8 x1, .int .i64 x2] 37)).alloc (Obj.cells #[.int .i64 y0, .int .u8 y1, .int .i64 y2] 37))) := ⟨_, rfl⟩
  rw [← HW.out]
  have HB : Hid (Below w.heap.size w W) := by show Below _ _ _; rw [HW.out]; exact below2 w _ _
  obtain ⟨a0, a1, a2⟩ : W.cell? ⟨w.heap.size, 0, none⟩ = some (.int .i64 x0) ∧ W.cell? ⟨w.heap.size, 1, none⟩ = some (.int .u8 x1) ∧ W.cell? ⟨w.heap.size, 2, none⟩ = some (.int .i64 x2) := by
    obtain ⟨h0, h1, h2⟩ := box_cells w (.int .i64 x0) (.int .u8 x1) (.int .i64 x2) 37 _ rfl
    rw [HW.out]
    exact ⟨cell_below h0 (below1 _ _) (by simp), cell_below h1 (below1 _ _) (by simp), cell_below h2 (below1 _ _) (by simp)⟩
  obtain ⟨b0, b1, b2⟩ : W.cell? ⟨w.heap.size + 1, 0, none⟩ = some (.int .i64 y0) ∧ W.cell? ⟨w.heap.size + 1, 1, none⟩ = some (.int .u8 y1) ∧ W.cell? ⟨w.heap.size + 1, 2, none⟩ = some (.int .i64 y2) := by
    rw [HW.out]
    exact box_cells _ _ _ _ 37 _ (by simp)
  go_region_held3 (fun w' => w'.cell? ⟨w.heap.size, 0, none⟩ = some (.int .i64 x0) ∧ w'.cell? ⟨w.heap.size, 1, none⟩ = some (.int .u8 x1) ∧ w'.cell? ⟨w.heap.size, 2, none⟩ = some (.int .i64 x2) ∧ w'.cell? ⟨w.heap.size + 1, 0, none⟩ = some (.int .i64 y0) ∧ w'.cell? ⟨w.heap.size + 1, 1, none⟩ = some (.int .u8 y1) ∧ w'.cell? ⟨w.heap.size + 1, 2, none⟩ = some (.int .i64 y2)) (first | exact ⟨a0, a1, a2, b0, b1, b2⟩ | exact ⟨cell_below a0 (below_ad _ _) (lt_of_cell a0), cell_below a1 (below_ad _ _) (lt_of_cell a1), cell_below a2 (below_ad _ _) (lt_of_cell a2), cell_below b0 (below_ad _ _) (lt_of_cell b0), cell_below b1 (below_ad _ _) (lt_of_cell b1), cell_below b2 (below_ad _ _) (lt_of_cell b2)⟩) (first | (go_at_call 66; clear K1; refine (T1.out _).mono ?_; rintro e w1 ⟨rfl, rfl⟩) | (go_at_call 66; clear K2; refine (T2.out _).mono ?_; rintro e w1 ⟨rfl, rfl⟩) | (go_at_call 67; refine (T3.out _).mono ?_; rintro e w1 ⟨rfl, rfl⟩) | (go_at_call 65; refine (cmpOr_new _ _ _ _ _ _ (by rfl)).mono ?_; rintro e w1 ⟨r, rfl, HR, rfl⟩))
  all_goals go_wp2
  all_goals go_ret
  all_goals exact ⟨r, _, _, _, rfl, by show _ = _; rw [HR.out, HE.out], by show _ = _; rw [HW.out]⟩
theorem compareEdges_any (x y : Ed) (w : World) :
    Calls Try.prog 42 #[ev x, ev y] w fun e w' => ∃ r : Int, e = .returned (.int .i64 r) ∧ Hid (r = cmpE x y) ∧ Hid (Below w.heap.size w w') :=
  (compareEdges_at x y w).mono fun _ _ ⟨r, o1, o2, o3, h1, h2, h3⟩ => ⟨r, h1, h2, by show Below _ _ _; rw [h3.out]; exact (below3 w o1 o2 o3).drew⟩

set_option maxHeartbeats 1000000 in
set_option maxRecDepth 100000 in
theorem edgeLess_any (x y : Ed) (r : Bool) (w : World) (hr : r = ltE x y) :
    Calls Try.prog 35 #[ev x, ev y] w fun e w' => e = .returned (.bool r) ∧ Hid (Below w.heap.size w w') := by
  have HR : Hid (r = ltE x y) := hr
  clear hr
  obtain ⟨x0, x1, x2⟩ := x
  obtain ⟨y0, y1, y2⟩ := y
  go_enter Try.func35, Try.ntmps35
  go_wp2_with fail
  refine (compareEdges_any (x0, x1, x2) (y0, y1, y2) _).mono ?_
  rintro e w1 ⟨c, rfl, HC, HB⟩
  have HB2 : Hid (Below w.heap.size w w1) := (below2 w _ _).trans (HB.out.mono (by simp; omega))
  clear HB
  rcases Bool.eq_false_or_eq_true r with h | h
  · have hc : decide (c < 0) = true := by rw [HC.out]; exact (h ▸ HR.out).symm
    go_wp2
    go_ret
    exact ⟨by rw [h]; rfl, HB2⟩
  · have hc : decide (c < 0) = false := by rw [HC.out]; exact (h ▸ HR.out).symm
    go_wp2
    go_ret
    exact ⟨by rw [h]; rfl, HB2⟩

set_option maxHeartbeats 1000000 in
set_option maxRecDepth 100000 in
theorem specLess_edge (x y : Ed) (r : Bool) (w : World) (hr : r = ltE x y) :
    Calls Try.prog 32 #[ev x, ev y] w fun e w' => e = .returned (.bool r) ∧ Hid (Below w.heap.size w w') := by
  have HR : Hid (r = ltE x y) := hr
  clear hr
  obtain ⟨x0, x1, x2⟩ := x
  obtain ⟨y0, y1, y2⟩ := y
  have HR2 : Hid (r = if x0 = y0 then (if x1 = y1 then decide (x2 < y2) else decide (x1 < y1)) else decide (x0 < y0)) := by
    show _ = _
    rw [HR.out]
    unfold ltE cmpE orI cmpI
    by_cases h0 : x0 = y0
    · subst h0
      by_cases h1 : x1 = y1
      · subst h1
        rcases Int.lt_trichotomy x2 y2 with h | h | h
        · simp [h]
        · subst h; simp
        · simp [h, Int.lt_asymm h]
      · rcases Int.lt_trichotomy x1 y1 with h | h | h
        · simp [h, h1]
        · exact absurd h h1
        · simp [h, Int.lt_asymm h, h1]
    · rcases Int.lt_trichotomy x0 y0 with h | h | h
      · simp [h, h0]
      · exact absurd h h0
      · simp [h, Int.lt_asymm h, h0]
  clear HR
  by_cases h0 : x0 = y0
  · subst h0
    by_cases h1 : x1 = y1
    · subst h1
      have HR3 : Hid (r = decide (x2 < y2)) := by show _ = _; rw [HR2.out]; simp
      obtain ⟨d, hd⟩ : ∃ d, decide (x2 < y2) = d := ⟨_, rfl⟩
      go_enter Try.func32, Try.ntmps32
      go_wp2
      go_ret
      exact ⟨by rw [HR3.out, hd]; rfl, below2 w _ _⟩
    · have HR3 : Hid (r = decide (x1 < y1)) := by show _ = _; rw [HR2.out]; simp [h1]
      obtain ⟨d, hd⟩ : ∃ d, decide (x1 < y1) = d := ⟨_, rfl⟩
      have hn : decide (x1 = y1) = false := decide_eq_false h1
      go_enter Try.func32, Try.ntmps32
      go_wp2
      go_ret
      exact ⟨by rw [HR3.out, hd]; rfl, below2 w _ _⟩
  · have HR3 : Hid (r = decide (x0 < y0)) := by show _ = _; rw [HR2.out]; simp [h0]
    obtain ⟨d, hd⟩ : ∃ d, decide (x0 < y0) = d := ⟨_, rfl⟩
    have hn : decide (x0 = y0) = false := decide_eq_false h0
    go_enter Try.func32, Try.ntmps32
    go_wp2
    go_ret
    exact ⟨by rw [HR3.out, hd]; rfl, below2 w _ _⟩

def inV (s v : Int) : Bool := decide (0 ≤ v) && decide (v < s)
/-- a right edge of so many vertices -/
def okE (s : Int) (x : Ed) : Bool := inV s x.1 && inV s x.2.2 && decide (97 ≤ x.2.1) && decide (x.2.1 ≤ 100)

set_option maxHeartbeats 1000000 in
theorem isVertex_any (v s : Int) (r : Bool) (w : World) (hr : r = inV s v) : Calls Try.prog 58 #[.int .i64 v, .int .i64 s] w fun e w' => e = .returned (.bool r) ∧ w = w' := by
  by_cases h0 : 0 ≤ v
  · have hd : decide (v ≥ 0) = true := by simpa using h0
    have hr2 : decide (v < s) = r := by rw [hr]; unfold inV; simp [h0]
    clear hr
    go_enter Try.func58, Try.ntmps58
    go_wp2
    go_ret
    exact ⟨rfl, rfl⟩
  · have hd : decide (v ≥ 0) = false := by simp; omega
    have hr2 : r = false := by rw [hr]; unfold inV; simp [h0]
    subst hr2
    clear hr
    go_enter Try.func58, Try.ntmps58
    go_wp2
    go_ret
    exact ⟨rfl, rfl⟩

set_option maxHeartbeats 2000000 in
set_option maxRecDepth 100000 in
theorem edgeOk_any (x : Ed) (s : Int) (r : Bool) (w : World) (hr : r = okE s x) : Calls Try.prog 34 #[ev x, .int .i64 s] w fun e w' => e = .returned (.bool r) ∧ Hid (Below w.heap.size w w') := by
  obtain ⟨x0, x1, x2⟩ := x
  obtain ⟨u, HU⟩ : ∃ u, Hid (u = inV s x0) := ⟨_, rfl⟩
  obtain ⟨v, HV⟩ : ∃ u, Hid (u = inV s x2) := ⟨_, rfl⟩
  have HR : Hid (r = (u && v && decide (97 ≤ x1) && decide (x1 ≤ 100))) := by show _ = _; rw [hr, HU.out, HV.out]; rfl
  clear hr
  obtain ⟨d, hd⟩ : ∃ d, decide (97 ≤ x1) = d := ⟨_, rfl⟩
  obtain ⟨f, hf⟩ : ∃ d, decide (x1 ≤ 100) = d := ⟨_, rfl⟩
  have hd' : decide (x1 ≥ 97) = d := hd
  have HR2 : Hid (r = (u && v && d && f)) := by show _ = _; rw [HR.out, hd, hf]
  clear HR
  rcases Bool.eq_false_or_eq_true u with h | h
  · subst h
    rcases Bool.eq_false_or_eq_true v with h | h
    · subst h
      rcases Bool.eq_false_or_eq_true d with h | h
      · subst h
        go_enter Try.func34, Try.ntmps34
        go_wp2_with fail
        refine (isVertex_any x0 s true _ HU.out).mono ?_
        rintro e w1 ⟨rfl, rfl⟩
        go_wp2_with fail
        refine (isVertex_any x2 s true _ HV.out).mono ?_
        rintro e w1 ⟨rfl, rfl⟩
        go_wp2
        go_ret
        exact ⟨by rw [HR2.out]; rfl, below1 _ _⟩
      · subst h
        go_enter Try.func34, Try.ntmps34
        go_wp2_with fail
        refine (isVertex_any x0 s true _ HU.out).mono ?_
        rintro e w1 ⟨rfl, rfl⟩
        go_wp2_with fail
        refine (isVertex_any x2 s true _ HV.out).mono ?_
        rintro e w1 ⟨rfl, rfl⟩
        go_wp2
        go_ret
        exact ⟨by rw [HR2.out]; rfl, below1 _ _⟩
    · subst h
      go_enter Try.func34, Try.ntmps34
      go_wp2_with fail
      refine (isVertex_any x0 s true _ HU.out).mono ?_
      rintro e w1 ⟨rfl, rfl⟩
      go_wp2_with fail
      refine (isVertex_any x2 s false _ HV.out).mono ?_
      rintro e w1 ⟨rfl, rfl⟩
      go_wp2
      go_ret
      exact ⟨by rw [HR2.out]; rfl, below1 _ _⟩
  · subst h
    go_enter Try.func34, Try.ntmps34
    go_wp2_with fail
    refine (isVertex_any x0 s false _ HU.out).mono ?_
    rintro e w1 ⟨rfl, rfl⟩
    go_wp2
    go_ret
    exact ⟨by rw [HR2.out]; rfl, below1 _ _⟩
end Go.Proofs.Ytfeimdlkpiacoaa
