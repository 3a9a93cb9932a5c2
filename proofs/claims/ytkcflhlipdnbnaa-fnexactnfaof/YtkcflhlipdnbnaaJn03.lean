/-
  Lists of bools: in, owned, held against one another, marked, held; out of their reading.
-/
import Derived.Test.YtkcflhlipdnbnaaJn02
import Derived.Laws.MakeOwn
import Derived.Deep.DeepCutAuto
import Derived.Deep.CutBlock
namespace Go.Proofs.Ytkcflhlipdnbnaa
open Go.RowKit

/-- a row of ints that is reached by a slice; its block is one of lo .. hi - 1 -/
def BlsIn (lo hi : Nat) (w : World) (a : Option Addr) (l : List Bool) : Prop :=
  l = [] ∨ ∃ b o, a = some ⟨b, o, none⟩ ∧ lo ≤ b ∧ b < hi ∧ ∀ i, i < l.length → w.cell? ⟨b, o + i, none⟩ = some (.bool (l.getD i false))

theorem BlsIn.below {lo hi B : Nat} {w w' : World} {a : Option Addr} {l : List Bool} (h : BlsIn lo hi w a l) (hb : Below B w w') (hB : hi ≤ B) : BlsIn lo hi w' a l := by
  rcases h with h | ⟨b, o, e, h1, h2, h3⟩
  · exact .inl h
  · exact .inr ⟨b, o, e, h1, h2, fun i hi => cell_below (h3 i hi) hb (by omega)⟩

theorem BlsIn.wide {lo hi lo' hi' : Nat} {w : World} {a : Option Addr} {l : List Bool} (h : BlsIn lo hi w a l) (h1 : lo' ≤ lo) (h2 : hi ≤ hi') : BlsIn lo' hi' w a l := by
  rcases h with h | ⟨b, o, e, h3, h4, h5⟩
  · exact .inl h
  · exact .inr ⟨b, o, e, by omega, by omega, h5⟩

theorem BlsIn.num {lo hi : Nat} {w : World} {a : Option Addr} {l : List Bool} (h : BlsIn lo hi w a l) {i : Nat} (hi' : i < l.length) : ∃ b o, a = some ⟨b, o, none⟩ ∧ w.cell? ⟨b, o + i, none⟩ = some (.bool (l.getD i false)) := by
  rcases h with rfl | ⟨b, o, e, _, _, hc⟩
  · exact absurd hi' (by simp)
  · exact ⟨b, o, e, hc i hi'⟩
theorem info4B : (Try.prog.info? 4).map (fun i => (i.zero, i.size, i.bytes)) = some (some (.bool false), 1, 1) := by kernel_rfl
theorem BlsIn.kept {lo hi : Nat} {p : Nat → Prop} {w w' : World} {a : Option Addr} {l : List Bool} (h : BlsIn lo hi w a l) (hk : KeptP p w w') (hh : hi ≤ w.heap.size) (hp : ∀ k, lo ≤ k → k < hi → ¬ p k) : BlsIn lo hi w' a l := by
  rcases h with h | ⟨b, o, e, h1, h2, h3⟩
  · exact .inl h
  · exact .inr ⟨b, o, e, h1, h2, fun i hi => hk.cell (h3 i hi) (by omega) (hp b h1 h2)⟩

/-- a row that is owned: its block is its own -/
def BlsOwn (lo hi : Nat) (w : World) (a : Option Addr) (l : List Bool) : Prop :=
  l = [] ∨ ∃ b, a = some ⟨b, 0, none⟩ ∧ lo ≤ b ∧ b < hi ∧ Blk w b l.length (fun i => .bool (l.getD i false))

theorem BlsOwn.toIn {lo hi : Nat} {w : World} {a : Option Addr} {l : List Bool} (h : BlsOwn lo hi w a l) : BlsIn lo hi w a l := by
  rcases h with h | ⟨b, e, h1, h2, h3⟩
  · exact .inl h
  · exact .inr ⟨b, 0, e, h1, h2, fun i hi => by rw [Nat.zero_add]; exact h3.cell hi⟩
theorem BlsOwn.below {lo hi B : Nat} {w w' : World} {a : Option Addr} {l : List Bool} (h : BlsOwn lo hi w a l) (hb : Below B w w') (hB : hi ≤ B) : BlsOwn lo hi w' a l := by
  rcases h with h | ⟨b, e, h1, h2, h3⟩
  · exact .inl h
  · exact .inr ⟨b, e, h1, h2, h3.of_block (hb.block b (by omega))⟩
theorem BlsOwn.wide {lo hi lo' hi' : Nat} {w : World} {a : Option Addr} {l : List Bool} (h : BlsOwn lo hi w a l) (h1 : lo' ≤ lo) (h2 : hi ≤ hi') : BlsOwn lo' hi' w a l := by
  rcases h with h | ⟨b, e, h3, h4, h5⟩
  · exact .inl h
  · exact .inr ⟨b, e, by omega, by omega, h5⟩
theorem BlsOwn.kept {lo hi : Nat} {p : Nat → Prop} {w w' : World} {a : Option Addr} {l : List Bool} (h : BlsOwn lo hi w a l) (hk : KeptP p w w') (hp : ∀ c, lo ≤ c → c < hi → ¬ p c) : BlsOwn lo hi w' a l := by
  rcases h with h | ⟨b, e, h1, h2, h3⟩
  · exact .inl h
  · exact .inr ⟨b, e, h1, h2, hk.blk h3 (hp b h1 h2)⟩

theorem BlsOwn.setCellP {lo hi b j : Nat} {w : World} {a : Option Addr} {l : List Bool} (h : BlsOwn lo hi w a l) (hb : b < lo) (v : Value) : BlsOwn lo hi (w.setCell ⟨b, j, none⟩ v) a l := by
  rcases h with h | ⟨g, e, h1, h2, h3⟩
  · exact .inl h
  · exact .inr ⟨g, e, h1, h2, h3.of_block (Below.heap_setCell w ⟨b, j, none⟩ v g (by simp; omega))⟩

theorem extB_getD {l l' : List Bool} {n : Nat} (h1 : l.length = n) (h2 : l'.length = n) (h : ∀ j, j < n → l.getD j false = l'.getD j false) : l = l' := by
  apply List.ext_getElem (by omega)
  intro i hi hi'
  have := h i (by omega)
  simpa [List.getD, hi, hi'] using this

set_option maxHeartbeats 1000000 in
set_option maxRecDepth 100000 in
theorem eqBools_any_q (lo hi lo' hi' : Nat) (a a' : Option Addr) (n n' cap cap' : Nat) (l l' : List Bool) (r : Bool) (w : World) (ha : BlsIn lo hi w a l) (hb : BlsIn lo' hi' w a' l') (hn : l.length = n) (hn' : l'.length = n') (hm : n ≤ 1048576) (hr : r = decide (l = l')) :
    Calls Try.prog 44 #[.slice a n cap, .slice a' n' cap'] w fun e w' => e = .returned (.bool r) ∧ Drawn w w' := by
  by_cases hne : n = n'
  · subst hne
    have HN : Hid (l.length = n) := hn
    have HN' : Hid (l'.length = n) := hn'
    have HR : Hid (r = decide (l = l')) := hr
    clear hn hn' hr
    by_cases h0 : n = 0
    · subst h0
      have HT : Hid (r = true) := by
        have h1 := HN.out; have h2 := HN'.out
        show r = true
        rw [HR.out]; simp [List.length_eq_zero_iff.1 h1, List.length_eq_zero_iff.1 h2]
      clear ha hb
      go_enter Try.func44, Try.ntmps44
      go_wp2
      go_loop [5] (fun i => i = .int .i64 0) (fun _ => 0)
      case atStart => rfl
      case round =>
        subst hrel
        go_wp2
        go_ret
        exact ⟨by rw [HT.out]; rfl, Drawn.refl _⟩
    · obtain ⟨b, o, rfl, _, _, hc⟩ : ∃ b o, a = some ⟨b, o, none⟩ ∧ lo ≤ b ∧ b < hi ∧ ∀ i, i < l.length → w.cell? ⟨b, o + i, none⟩ = some (.bool (l.getD i false)) := by
        rcases ha with rfl | h
        · exact absurd HN.out (by simp; omega)
        · exact h
      obtain ⟨b', o', rfl, _, _, hc'⟩ : ∃ b o, a' = some ⟨b, o, none⟩ ∧ lo' ≤ b ∧ b < hi' ∧ ∀ i, i < l'.length → w.cell? ⟨b, o + i, none⟩ = some (.bool (l'.getD i false)) := by
        rcases hb with rfl | h
        · exact absurd HN'.out (by simp; omega)
        · exact h
      have HC : Hid (∀ i, i < n → w.cell? ⟨b, o + i, none⟩ = some (.bool (l.getD i false))) := by have := HN.out; intro i hi; exact hc i (by omega)
      have HC' : Hid (∀ i, i < n → w.cell? ⟨b', o' + i, none⟩ = some (.bool (l'.getD i false))) := by have := HN'.out; intro i hi; exact hc' i (by omega)
      clear ha hb hc hc'
      go_enter Try.func44, Try.ntmps44
      go_wp2
      go_loopw [5] (fun i wr => ∃ k : Nat, i = .int .i64 k ∧ k ≤ n ∧ Hid (∀ j, j < k → l.getD j false = l'.getD j false) ∧ ∃ q, wr = w.drewN q) (fun i _ => n - (intOf i).toNat)
      case atStart => exact ⟨0, rfl, by omega, fun j hj => absurd hj (by omega), 0, rfl⟩
      case round =>
        obtain ⟨k, rfl, hk, HE, q, rfl⟩ := hrel
        by_cases hlt : k < n
        · have hca := HC.out k hlt
          have hcb := HC'.out k hlt
          obtain ⟨x, hx⟩ : ∃ x, x = l.getD k false := ⟨_, rfl⟩
          obtain ⟨y, hy⟩ : ∃ y, y = l'.getD k false := ⟨_, rfl⟩
          rw [← hx] at hca
          rw [← hy] at hcb
          have HX : Hid (x = l.getD k false) := hx
          have HY : Hid (y = l'.getD k false) := hy
          clear hx hy
          have hlt1 : (k : Int) < (n : Int) := by omega
          by_cases hxy : x = y
          · subst hxy
            have HXY : Hid (l.getD k false = l'.getD k false) := by show _ = _; rw [← HX.out, ← HY.out]
            clear HX HY
            cases x
            all_goals
             go_wp2_with fail
             go_quiet (fail)
             go_wp2
             go_roundw
             case rel =>
              refine ⟨k + 1, by go_num, by omega, ?_, _, rfl⟩
              intro j hj
              rcases Nat.lt_or_ge j k with h | h
              · exact HE.out j h
              · obtain rfl : j = k := by omega
                exact HXY.out
             case measure => simp [intOf]; omega
          · have hf : Hid (r = false) := by
              show _ = _
              rw [HR.out]; simp only [decide_eq_false_iff_not]
              intro e
              exact hxy (by rw [HX.out, HY.out, e])
            clear HX HY
            cases x <;> cases y
            all_goals first | exact absurd rfl hxy | skip
            all_goals
             go_wp2_with fail
             go_quiet (fail)
             go_wp2
             go_ret
             refine ⟨?_, ((Drawn.refl _).drewN _).drewN _⟩
             rw [hf.out]; rfl
        · go_wp2
          go_ret
          refine ⟨?_, (Drawn.refl _).drewN _⟩
          have ht : r = true := by
            rw [HR.out]; simp only [decide_eq_true_eq]
            exact extB_getD HN.out HN'.out (fun j hj => HE.out j (by omega))
          rw [ht]; rfl
  · have hf : r = false := by
      rw [hr]; simp only [decide_eq_false_iff_not]
      intro e; subst e; omega
    subst hf
    clear ha hb hr hn hn'
    go_enter Try.func44, Try.ntmps44
    go_wp2
    go_ret
    exact ⟨rfl, Drawn.refl _⟩

theorem eqBools_any (lo hi lo' hi' : Nat) (a a' : Option Addr) (n n' cap cap' : Nat) (l l' : List Bool) (r : Bool) (w : World) (ha : BlsIn lo hi w a l) (hb : BlsIn lo' hi' w a' l') (hn : l.length = n) (hn' : l'.length = n') (hm : n ≤ 1048576) (hr : r = decide (l = l')) :
    Calls Try.prog 44 #[.slice a n cap, .slice a' n' cap'] w fun e w' => e = .returned (.bool r) ∧ Below w.heap.size w w' :=
  (eqBools_any_q lo hi lo' hi' a a' n n' cap cap' l l' r w ha hb hn hn' hm hr).mono fun _ _ h => ⟨h.1, h.2.below⟩

/-- marks from K on -/
def mkB (K : Nat) : Bool := (((K : Nat) : Int) % 3 == 0)
def marksB (K n : Nat) : List Bool := (List.range n).map fun i => mkB (K + i)
theorem marksB_len (K n : Nat) : (marksB K n).length = n := by simp [marksB]
theorem marksB_get {K n i : Nat} (h : i < n) : (marksB K n).getD i false = mkB (K + i) := by simp [marksB, List.getD, h]
set_option maxHeartbeats 1000000 in
set_option maxRecDepth 100000 in
theorem markBools_any (p : Nat → Prop) (lo hi : Nat) (a : Option Addr) (n cap K : Nat) (l : List Bool) (w : World) (ha : BlsOwn lo hi w a l) (hn : l.length = n) (hm : n ≤ 1048576) (hK : K ≤ 1099511627776) (hp : ∀ b, a = some ⟨b, 0, none⟩ → l ≠ [] → p b) :
    Calls Try.prog 48 #[.slice a n cap, .int .i64 (K : Int)] w fun e w' => e = .returned (.int .i64 ((K + n : Nat) : Int)) ∧ BlsOwn lo hi w' a (marksB K n) ∧ KeptP p w w' ∧ w'.heap.size = w.heap.size := by
  have HN : Hid (l.length = n) := hn
  by_cases h0 : n = 0
  · subst h0
    clear ha hn hp
    go_enter Try.func48, Try.ntmps48
    go_wp2
    go_loop [5, 1] (fun i k => i = .int .i64 0 ∧ k = .int .i64 (K : Int)) (fun _ _ => 0)
    case atStart => exact ⟨rfl, rfl⟩
    case round =>
      obtain ⟨rfl, rfl⟩ := hrel
      go_wp2
      go_ret
      exact ⟨rfl, .inl (by simp [marksB]), KeptP.refl _ _, rfl⟩
  · obtain ⟨b, rfl, h1, h2, hb⟩ : ∃ b, a = some ⟨b, 0, none⟩ ∧ lo ≤ b ∧ b < hi ∧ Blk w b l.length (fun i => .bool (l.getD i false)) := by
      rcases ha with rfl | h
      · exact absurd HN.out (by simp; omega)
      · exact h
    have HP : Hid (p b) := hp b rfl (by intro e; subst e; exact h0 (by simpa using hn.symm))
    have HX : Hid (lo ≤ b ∧ b < hi) := ⟨h1, h2⟩
    have HB0 : Hid (Blk w b n (fun i => .bool (l.getD i false))) := by rw [hn] at hb; exact hb
    clear ha hb hn hp h1 h2
    go_enter Try.func48, Try.ntmps48
    go_wp2
    go_loopw [5, 1] (fun i s wr => ∃ k : Nat, i = .int .i64 k ∧ s = .int .i64 ((K + k : Nat) : Int) ∧ k ≤ n ∧ Hid (Blk wr b n (fun j => if j < k then .bool (mkB (K + j)) else .bool (l.getD j false))) ∧ Hid (KeptP p w wr) ∧ wr.heap.size = w.heap.size) (fun i _ _ => n - (intOf i).toNat)
    case atStart => exact ⟨0, rfl, rfl, by omega, HB0.out.congr (fun i _ => by simp), KeptP.refl _ _, rfl⟩
    case round =>
      obtain ⟨k, rfl, rfl, hk, HB, HL, hsz⟩ := hrel
      by_cases hlt : k < n
      · have hlt1 : (k : Int) < (n : Int) := by omega
        have hcb := HB.out.cell hlt
        have hfb := HB.out.frozen k
        go_wp2
        go_roundw
        case rel =>
          refine ⟨k + 1, by go_num, by go_num, by omega, ?_, HL.out.setCell HP.out _, by simpa using hsz⟩
          refine (HB.out.set k hlt _).congr fun j hj => ?_
          by_cases e : j = k
          · subst e; simp [mkB]
          · by_cases e2 : j < k
            · simp [e, e2, show j < k + 1 by omega]
            · simp [e, e2, show ¬ j < k + 1 by omega]
        case measure => simp [intOf]; omega
      · obtain rfl : k = n := by omega
        go_wp2
        go_ret
        refine ⟨rfl, .inr ⟨b, rfl, HX.out.1, HX.out.2, ?_⟩, HL.out, hsz⟩
        rw [marksB_len]
        exact HB.out.congr fun j hj => by rw [marksB_get hj, if_pos hj]

set_option maxHeartbeats 1000000 in
set_option maxRecDepth 100000 in
theorem heldBools_any (lo hi : Nat) (a : Option Addr) (n cap K : Nat) (w : World) (ha : BlsIn lo hi w a (marksB K n)) (hm : n ≤ 1048576) (hK : K ≤ 1099511627776) :
    Calls Try.prog 50 #[.slice a n cap, .int .i64 (K : Int)] w fun e w' => e = .returned (.int .i64 ((K + n : Nat) : Int)) ∧ w = w' := by
  have HA : Hid (BlsIn lo hi w a (marksB K n)) := ha
  clear ha
  go_enter Try.func50, Try.ntmps50
  go_wp2
  go_loop [5, 1] (fun i s => ∃ k : Nat, i = .int .i64 k ∧ s = .int .i64 ((K + k : Nat) : Int) ∧ k ≤ n) (fun i _ => n - (intOf i).toNat)
  case atStart => exact ⟨0, rfl, rfl, by omega⟩
  case round =>
    obtain ⟨k, rfl, rfl, hk⟩ := hrel
    by_cases hlt : k < n
    · have hlt1 : (k : Int) < (n : Int) := by omega
      obtain ⟨b, o, rfl, h1, h2, hc⟩ : ∃ b o, a = some ⟨b, o, none⟩ ∧ lo ≤ b ∧ b < hi ∧ ∀ i, i < (marksB K n).length → w.cell? ⟨b, o + i, none⟩ = some (.bool ((marksB K n).getD i false)) := by
        rcases HA.out with h | h
        · exact absurd (marksB_len K n) (by rw [h]; simp; omega)
        · exact h
      have hca := hc k (by rw [marksB_len]; exact hlt)
      rw [marksB_get hlt] at hca
      clear hc h1 h2
      obtain ⟨B, HB⟩ : ∃ B, B = mkB (K + k) := ⟨_, rfl⟩
      rw [← HB] at hca
      have hb : ((((K : Nat) : Int) + ((k : Nat) : Int)) % 3 == 0) = B := by rw [HB]; simp [mkB]
      clear HB
      cases B
      all_goals
       go_wp2
       go_roundw
       case rel => exact ⟨k + 1, by go_num, by go_num, by omega⟩
       case measure => simp [intOf]; omega
    · obtain rfl : k = n := by omega
      go_wp2
      go_ret
      exact ⟨rfl, rfl⟩
end Go.Proofs.Ytkcflhlipdnbnaa

/-
  spec.GraphOk.
-/
namespace Go.Proofs.Ytkcflhlipdnbnaa
open Go.RowKit

theorem okE_split (s : Int) (x : Ed) : okE s x = (inV s x.1 && inV s x.2.2 && decide (97 ≤ x.2.1) && decide (x.2.1 ≤ 100)) := rfl
theorem inV_in (s v : Int) : (decide (0 ≤ v) && decide (v ≤ s - 1)) = inV s v := by unfold inV; congr 1; rw [decide_eq_decide]; omega

end Go.Proofs.Ytkcflhlipdnbnaa

/-
  Automata as values; which are right; impl.compareArcs, spec.l07Less.
-/
namespace Go.Proofs.Ytkcflhlipdnbnaa
open Go.RowKit

/-- an automaton as a value -/
abbrev nv (s : Int) (a : Option Addr) (n cap : Nat) (b : Option Addr) (m mc : Nat) : Value := .agg #[.int .i64 s, .slice a n cap, .slice b m mc]
/-- its cells in a box -/
def nf (s : Int) (a : Option Addr) (n cap : Nat) (b : Option Addr) (m mc : Nat) : Nat → Value := fun i => if i = 0 then .int .i64 s else if i = 1 then .slice a n cap else .slice b m mc
theorem blk_nf (w : World) (g : Nat) (hg : g = w.heap.size) (s : Int) (a : Option Addr) (n cap : Nat) (b : Option Addr) (m mc : Nat) (T : TypeId) : Blk (w.alloc (.cells #[.int .i64 s, .slice a n cap, .slice b m mc] T)) g 3 (nf s a n cap b m mc) := blk_three w g hg _ _ _ T
theorem nf_cells {w : World} {g : Nat} {s : Int} {a : Option Addr} {n cap : Nat} {b : Option Addr} {m mc : Nat} (h : Blk w g 3 (nf s a n cap b m mc)) : w.cell? ⟨g, 0, none⟩ = some (.int .i64 s) ∧ w.cell? ⟨g, 1, none⟩ = some (.slice a n cap) ∧ w.cell? ⟨g, 2, none⟩ = some (.slice b m mc) := ⟨h.cell (i := 0) (by omega), h.cell (i := 1) (by omega), h.cell (i := 2) (by omega)⟩
/-- right: states s, arcs l, so many ends -/
def okN (s : Int) (l : List Ed) (m : Nat) : Bool := decide (1 ≤ s) && decide (s ≤ 24) && decide ((m : Int) = s) && okGTo s l l.length
theorem okN_no {s : Int} {l : List Ed} {m k : Nat} (h : k < l.length) (hk : okGAt s l k = false) : okN s l m = false := by unfold okN; rw [okGTo_false h hk]; simp
theorem okN_size {s : Int} {l : List Ed} {m : Nat} (h : okN s l m = true) : 1 ≤ s ∧ s ≤ 24 ∧ (m : Int) = s := by unfold okN at h; simp at h; omega
theorem okN_at {s : Int} {l : List Ed} {m : Nat} (h : okN s l m = true) {k : Nat} (hk : k < l.length) : okGAt s l k = true := by unfold okN at h; simp only [Bool.and_eq_true] at h; exact okGTo_at h.2 hk
theorem okN_arc {s : Int} {l : List Ed} {m : Nat} (h : okN s l m = true) {k : Nat} (hk : k < l.length) : okE s (eat l k) = true := by
  have := okN_at h hk; unfold okGAt at this; simp only [Bool.and_eq_true] at this; exact this.1

set_option maxHeartbeats 1000000 in
theorem compareArcs_any (x y : Ed) (w : World) :
    Calls Try.prog 83 #[ev x, ev y] w fun e w' => ∃ r : Int, e = .returned (.int .i64 r) ∧ Hid (r = cmpE x y) ∧ Hid (Below w.heap.size w w') := by
  obtain ⟨x0, x1, x2⟩ := x
  obtain ⟨y0, y1, y2⟩ := y
  have HC : Hid (∀ w0, Calls Try.prog 102 #[ev (x0, x1, x2), ev (y0, y1, y2)] w0 fun e w' => ∃ r : Int, e = .returned (.int .i64 r) ∧ Hid (r = cmpE (x0, x1, x2) (y0, y1, y2)) ∧ Hid (Below w0.heap.size w0 w')) := fun w0 => compareEdges_any _ _ w0
  go_enter Try.func83, Try.ntmps83
  go_wp2_with fail
  refine (HC.out _).mono ?_
  rintro e w1 ⟨r, rfl, HR, HB⟩
  go_wp2
  go_ret
  exact ⟨r, rfl, HR, (below2 w _ _).trans (HB.out.mono (by simp; omega))⟩
set_option maxHeartbeats 1000000 in
theorem specLess_arc (x y : Ed) (r : Bool) (w : World) (hr : r = ltE x y) :
    Calls Try.prog 75 #[ev x, ev y] w fun e w' => e = .returned (.bool r) ∧ Hid (Below w.heap.size w w') := by
  have HR : Hid (r = ltE x y) := hr
  clear hr
  obtain ⟨x0, x1, x2⟩ := x
  obtain ⟨y0, y1, y2⟩ := y
  have HR2 : Hid (r = if x0 = y0 then (if x1 = y1 then decide (x2 < y2) else decide (x1 < y1)) else decide (x0 < y0)) := by
    show _ = _
    rw [HR.out]
    unfold ltE cmpE orI cmpI
    by_cases h0 : x0 = y0
    · subst h0
      by_cases h1 : x1 = y1
      · subst h1
        rcases Int.lt_trichotomy x2 y2 with h | h | h
        · simp [h]
        · subst h; simp
        · simp [h, Int.lt_asymm h]
      · rcases Int.lt_trichotomy x1 y1 with h | h | h
        · simp [h, h1]
        · exact absurd h h1
        · simp [h, Int.lt_asymm h, h1]
    · rcases Int.lt_trichotomy x0 y0 with h | h | h
      · simp [h, h0]
      · exact absurd h h0
      · simp [h, Int.lt_asymm h, h0]
  clear HR
  by_cases h0 : x0 = y0
  · subst h0
    by_cases h1 : x1 = y1
    · subst h1
      have HR3 : Hid (r = decide (x2 < y2)) := by show _ = _; rw [HR2.out]; simp
      obtain ⟨d, hd⟩ : ∃ d, decide (x2 < y2) = d := ⟨_, rfl⟩
      go_enter Try.func75, Try.ntmps75
      go_wp2
      go_ret
      exact ⟨by rw [HR3.out, hd]; rfl, below2 w _ _⟩
    · have HR3 : Hid (r = decide (x1 < y1)) := by show _ = _; rw [HR2.out]; simp [h1]
      obtain ⟨d, hd⟩ : ∃ d, decide (x1 < y1) = d := ⟨_, rfl⟩
      have hn : decide (x1 = y1) = false := decide_eq_false h1
      go_enter Try.func75, Try.ntmps75
      go_wp2
      go_ret
      exact ⟨by rw [HR3.out, hd]; rfl, below2 w _ _⟩
  · have HR3 : Hid (r = decide (x0 < y0)) := by show _ = _; rw [HR2.out]; simp [h0]
    obtain ⟨d, hd⟩ : ∃ d, decide (x0 < y0) = d := ⟨_, rfl⟩
    have hn : decide (x0 = y0) = false := decide_eq_false h0
    go_enter Try.func75, Try.ntmps75
    go_wp2
    go_ret
    exact ⟨by rw [HR3.out, hd]; rfl, below2 w _ _⟩

end Go.Proofs.Ytkcflhlipdnbnaa

/-
  Automata that come in, that are owned, held against one another, marked and held: szNfa, toNfa, eqNfa, markNfa, heldNfa; out of their reading.
-/
namespace Go.Proofs.Ytkcflhlipdnbnaa
open Go.RowKit

/-- an automaton's arcs and ends, somewhere between lo and hi -/
def NfaIn (lo hi : Nat) (w : World) (a b : Option Addr) (l : List Ed) (e : List Bool) : Prop := EdgesIn lo hi w a l ∧ BlsIn lo hi w b e
/-- owned, and its two lists apart -/
def NfaOwn (lo hi : Nat) (w : World) (a b : Option Addr) (l : List Ed) (e : List Bool) : Prop := ∃ md, lo ≤ md ∧ md ≤ hi ∧ EdgesOwn lo md w a l ∧ BlsOwn md hi w b e
theorem NfaIn.below {lo hi B : Nat} {w w' : World} {a b : Option Addr} {l : List Ed} {e : List Bool} (h : NfaIn lo hi w a b l e) (hb : Below B w w') (hB : hi ≤ B) : NfaIn lo hi w' a b l e := ⟨h.1.below hb hB, h.2.below hb hB⟩
theorem NfaIn.wide {lo hi lo' hi' : Nat} {w : World} {a b : Option Addr} {l : List Ed} {e : List Bool} (h : NfaIn lo hi w a b l e) (h1 : lo' ≤ lo) (h2 : hi ≤ hi') : NfaIn lo' hi' w a b l e := ⟨h.1.wide h1 h2, h.2.wide h1 h2⟩
theorem NfaIn.kept {lo hi : Nat} {p : Nat → Prop} {w w' : World} {a b : Option Addr} {l : List Ed} {e : List Bool} (h : NfaIn lo hi w a b l e) (hk : KeptP p w w') (hh : hi ≤ w.heap.size) (hp : ∀ k, lo ≤ k → k < hi → ¬ p k) : NfaIn lo hi w' a b l e := ⟨h.1.kept hk hh hp, h.2.kept hk hh hp⟩
theorem NfaOwn.toIn {lo hi : Nat} {w : World} {a b : Option Addr} {l : List Ed} {e : List Bool} (h : NfaOwn lo hi w a b l e) : NfaIn lo hi w a b l e := by
  obtain ⟨md, h1, h2, h3, h4⟩ := h
  exact ⟨h3.toIn.wide (Nat.le_refl _) h2, h4.toIn.wide h1 (Nat.le_refl _)⟩
theorem NfaOwn.below {lo hi B : Nat} {w w' : World} {a b : Option Addr} {l : List Ed} {e : List Bool} (h : NfaOwn lo hi w a b l e) (hb : Below B w w') (hB : hi ≤ B) : NfaOwn lo hi w' a b l e := by
  obtain ⟨md, h1, h2, h3, h4⟩ := h
  exact ⟨md, h1, h2, h3.below hb (by omega), h4.below hb hB⟩
theorem NfaOwn.wide {lo hi lo' hi' : Nat} {w : World} {a b : Option Addr} {l : List Ed} {e : List Bool} (h : NfaOwn lo hi w a b l e) (h1 : lo' ≤ lo) (h2 : hi ≤ hi') : NfaOwn lo' hi' w a b l e := by
  obtain ⟨md, h3, h4, h5, h6⟩ := h
  exact ⟨md, by omega, by omega, h5.wide h1 (Nat.le_refl _), h6.wide (Nat.le_refl _) h2⟩
theorem NfaOwn.kept {lo hi : Nat} {p : Nat → Prop} {w w' : World} {a b : Option Addr} {l : List Ed} {e : List Bool} (h : NfaOwn lo hi w a b l e) (hk : KeptP p w w') (_hh : hi ≤ w.heap.size) (hp : ∀ k, lo ≤ k → k < hi → ¬ p k) : NfaOwn lo hi w' a b l e := by
  obtain ⟨md, h3, h4, h5, h6⟩ := h
  exact ⟨md, h3, h4, h5.kept hk (fun k h1 h2 => hp k h1 (by omega)), h6.kept hk (fun k h1 h2 => hp k (by omega) h2)⟩

set_option maxHeartbeats 1000000 in
set_option maxRecDepth 100000 in
theorem eqNfa_any (lo hi lo' hi' : Nat) (s s' : Int) (a a' b b' : Option Addr) (n n' cap cap' m m' mc mc' : Nat) (l l' : List Ed) (q q' : List Bool) (r : Bool) (w : World) (ha : NfaIn lo hi w a b l q) (hb : NfaIn lo' hi' w a' b' l' q') (hh : hi ≤ w.heap.size) (hh' : hi' ≤ w.heap.size) (hn : l.length = n) (hn' : l'.length = n') (hm : n ≤ 1048576) (hq : q.length = m) (hq' : q'.length = m') (hm2 : m ≤ 1048576) (hr : r = decide (s = s' ∧ l = l' ∧ q = q')) :
    Calls Try.prog 12 #[nv s a n cap b m mc, nv s' a' n' cap' b' m' mc'] w fun e w' => e = .returned (.bool r) ∧ Hid (Below w.heap.size w w') := by
  obtain ⟨u, HU⟩ : ∃ u : Bool, Hid (u = decide (l = l')) := ⟨_, rfl⟩
  obtain ⟨v, HV⟩ : ∃ v : Bool, Hid (v = decide (q = q')) := ⟨_, rfl⟩
  have HC : Hid (∀ w0, Below w.heap.size w w0 → Calls Try.prog 43 #[.slice a n cap, .slice a' n' cap'] w0 fun e w' => e = .returned (.bool u) ∧ Hid (Below w0.heap.size w0 w')) := fun w0 h =>
    eqArcs_any lo hi lo' hi' a a' n n' cap cap' l l' u w0 (ha.1.below h hh) (hb.1.below h hh') (Nat.le_trans hh h.size) (Nat.le_trans hh' h.size) hn hn' hm HU.out
  have HD : Hid (∀ w0, Below w.heap.size w w0 → Calls Try.prog 44 #[.slice b m mc, .slice b' m' mc'] w0 fun e w' => e = .returned (.bool v) ∧ Hid (Below w0.heap.size w0 w')) := fun w0 h =>
    (eqBools_any lo hi lo' hi' b b' m m' mc mc' q q' v w0 (ha.2.below h hh) (hb.2.below h hh') hq hq' hm2 HV.out).mono fun _ _ ⟨h1, h2⟩ => ⟨h1, h2⟩
  have HR : Hid (r = decide (s = s' ∧ l = l' ∧ q = q')) := hr
  clear ha hb hh hh' hn hn' hr hm hq hq' hm2
  by_cases he : s = s'
  · subst he
    have HR2 : Hid (r = (u && v)) := by show _ = _; rw [HR.out, HU.out, HV.out]; simp
    clear HR
    obtain ⟨W, HW⟩ : ∃ W, Hid (W = (w.alloc (.cells #[.int .i64 s, .slice a n cap, .slice b m mc] 29)).alloc (.cells #[.int .i64 s, .slice a' n' cap', .slice b' m' mc'] 29)) := ⟨_, rfl⟩
    obtain ⟨B, HB⟩ : ∃ B, Hid (B = w.heap.size) := ⟨_, rfl⟩
    have HBW : Hid (Below w.heap.size w W) := by rw [HW.out]; exact below2 w _ _
    have H0 : Hid (Blk W B 3 (nf s a n cap b m mc)) := by rw [HW.out]; exact (blk_nf w B HB.out _ _ _ _ _ _ _ _).alloc _
    have H1 : Hid (Blk W (B + 1) 3 (nf s a' n' cap' b' m' mc')) := by rw [HW.out]; exact blk_nf _ (B + 1) (by rw [HB.out]; simp) _ _ _ _ _ _ _ _
    obtain ⟨c0, c1, c2⟩ := nf_cells H0.out
    obtain ⟨d0, d1, d2⟩ := nf_cells H1.out
    go_enter Try.func12, Try.ntmps12
    go_upto_region 3 with fail
    rw [← HB.out, ← HW.out]
    clear HW
    go_wp2_with fail
    refine (HC.out _ HBW.out).mono ?_
    rintro e w1 ⟨rfl, HB1⟩
    have HBE1 : Hid (Below w.heap.size w w1) := HBW.out.trans (HB1.out.mono HBW.out.size)
    rcases Bool.eq_false_or_eq_true u with hu | hu
    · subst hu
      have HR3 : Hid (r = v) := by show _ = _; rw [HR2.out]; simp
      have H01 : Hid (Blk w1 B 3 (nf s a n cap b m mc)) := H0.out.of_block (HB1.out.block _ H0.out.lt)
      have H11 : Hid (Blk w1 (B + 1) 3 (nf s a' n' cap' b' m' mc')) := H1.out.of_block (HB1.out.block _ H1.out.lt)
      clear c0 c1 c2 d0 d1 d2
      obtain ⟨c0, c1, c2⟩ := nf_cells H01.out
      obtain ⟨d0, d1, d2⟩ := nf_cells H11.out
      go_wp2_with fail
      refine (HD.out _ HBE1.out).mono ?_
      rintro e w2 ⟨rfl, HB2⟩
      have HBE2 : Hid (Below w.heap.size w w2) := HBE1.out.trans (HB2.out.mono HBE1.out.size)
      rcases Bool.eq_false_or_eq_true v with hv | hv
      all_goals
        subst hv
        go_wp2
        go_ret
        exact ⟨by rw [HR3.out]; rfl, HBE2⟩
    · subst hu
      have HR3 : Hid (r = false) := by show _ = _; rw [HR2.out]; simp
      go_wp2
      go_ret
      exact ⟨by rw [HR3.out]; rfl, HBE1⟩
  · have hne : decide (s = s') = false := decide_eq_false he
    obtain rfl : r = false := by rw [HR.out]; simp [he]
    go_enter Try.func12, Try.ntmps12
    go_wp2
    go_ret
    exact ⟨rfl, below2 w _ _⟩

set_option maxHeartbeats 1000000 in
theorem markNfa_any (lo hi : Nat) (s : Int) (a b : Option Addr) (n cap m mc K : Nat) (l : List Ed) (q : List Bool) (w : World) (ha : NfaOwn lo hi w a b l q) (hh : hi ≤ w.heap.size) (hn : l.length = n) (hq : q.length = m) (hm : n ≤ 1048576) (hm2 : m ≤ 1048576) (hK : K ≤ 1048576) :
    Calls Try.prog 15 #[nv s a n cap b m mc, .int .i64 (K : Int)] w fun e w' => ∃ x : Nat, e = .returned (.int .i64 (x : Int)) ∧ Hid (x = K + n * 3 + m) ∧ Hid (NfaOwn lo hi w' a b (marksE K n) (marksB (K + n * 3) m)) ∧ Hid (KeptP (fun c => lo ≤ c ∧ c < hi) w w') := by
  obtain ⟨md, h1, h2, h3, h4⟩ := ha
  have HA : Hid (EdgesOwn lo md w a l) := h3
  have HQ : Hid (BlsOwn md hi w b q) := h4
  have HX : Hid (lo ≤ md ∧ md ≤ hi ∧ hi ≤ w.heap.size) := ⟨h1, h2, hh⟩
  have HN : Hid (l.length = n) := hn
  have HN2 : Hid (q.length = m) := hq
  clear h1 h2 h3 h4 hn hq hh
  obtain ⟨B, HB⟩ : ∃ B, Hid (B = w.heap.size) := ⟨_, rfl⟩
  obtain ⟨W, HW⟩ : ∃ W, Hid (W = w.alloc (.cells #[.int .i64 s, .slice a n cap, .slice b m mc] 29)) := ⟨_, rfl⟩
  have HBW : Hid (Below w.heap.size w W) := by rw [HW.out]; exact below1 w _
  have H0 : Hid (Blk W B 3 (nf s a n cap b m mc)) := by rw [HW.out]; exact blk_nf w B HB.out _ _ _ _ _ _ _ _
  obtain ⟨c0, c1, c2⟩ := nf_cells H0.out
  go_enter Try.func15, Try.ntmps15
  go_upto_region 1 with fail
  rw [← HB.out, ← HW.out]
  clear HW
  go_wp2_with fail
  refine (markArcs_any lo md a n cap K l W (HA.out.below HBW.out (by have := HX.out; omega)) HN.out hm (by omega)).mono ?_
  rintro e w1 ⟨rfl, HA1, HK1⟩
  obtain ⟨K2, HK2⟩ : ∃ K2, Hid (K2 = K + n * 3) := ⟨_, rfl⟩
  rw [← HK2.out]
  have H01 : Hid (Blk w1 B 3 (nf s a n cap b m mc)) := HK1.out.blk H0.out (by have := HX.out; have := HB.out; omega)
  have HQ1 : Hid (BlsOwn md hi w1 b q) := (HQ.out.below HBW.out HX.out.2.2).kept HK1.out (fun k h1 h2 h3 => by omega)
  clear c0 c1 c2
  obtain ⟨c0, c1, c2⟩ := nf_cells H01.out
  go_wp2_with fail
  refine (markBools_any (fun c => md ≤ c ∧ c < hi) md hi b m mc K2 q w1 HQ1.out HN2.out hm2 (by have := HK2.out; omega) ?_).mono ?_
  · intro g hg hne
    rcases HQ1.out with h | ⟨g', e, h1, h2, _⟩
    · exact absurd h hne
    · rw [hg] at e; simp at e; subst e; exact ⟨h1, h2⟩
  rintro e w2 ⟨rfl, h5, h6, _⟩
  have HQ2 : Hid (BlsOwn md hi w2 b (marksB K2 m)) := h5
  have HK3 : Hid (KeptP (fun c => md ≤ c ∧ c < hi) w1 w2) := h6
  clear h5 h6
  obtain ⟨x, HXX⟩ : ∃ x, Hid (x = K2 + m) := ⟨_, rfl⟩
  rw [← HXX.out]
  go_wp2
  go_ret
  refine ⟨x, rfl, by show x = _; rw [HXX.out, HK2.out], ⟨md, HX.out.1, HX.out.2.1, HA1.out.kept HK3.out (fun k h1 h2 h3 => by omega), by rw [← HK2.out]; exact HQ2.out⟩, ?_⟩
  exact (KeptP.of_below HBW.out (fun k hk _ => hk)).trans ((HK1.out.mono (fun k hk => ⟨hk.1, by have := HX.out; omega⟩)).trans (HK3.out.mono (fun k hk => ⟨by have := HX.out; omega, hk.2⟩)))

set_option maxHeartbeats 1000000 in
theorem heldNfa_any (lo hi : Nat) (s : Int) (a b : Option Addr) (n cap m mc K : Nat) (w : World) (ha : NfaIn lo hi w a b (marksE K n) (marksB (K + n * 3) m)) (hh : hi ≤ w.heap.size) (hm : n ≤ 1048576) (hm2 : m ≤ 1048576) (hK : K ≤ 1048576) :
    Calls Try.prog 16 #[nv s a n cap b m mc, .int .i64 (K : Int)] w fun e w' => ∃ x : Nat, e = .returned (.int .i64 (x : Int)) ∧ Hid (x = K + n * 3 + m) ∧ Hid (Below w.heap.size w w') := by
  have HA : Hid (NfaIn lo hi w a b (marksE K n) (marksB (K + n * 3) m)) := ha
  have HH : Hid (hi ≤ w.heap.size) := hh
  clear ha hh
  obtain ⟨B, HB⟩ : ∃ B, Hid (B = w.heap.size) := ⟨_, rfl⟩
  obtain ⟨W, HW⟩ : ∃ W, Hid (W = w.alloc (.cells #[.int .i64 s, .slice a n cap, .slice b m mc] 29)) := ⟨_, rfl⟩
  have HBW : Hid (Below w.heap.size w W) := by rw [HW.out]; exact below1 w _
  have H0 : Hid (Blk W B 3 (nf s a n cap b m mc)) := by rw [HW.out]; exact blk_nf w B HB.out _ _ _ _ _ _ _ _
  obtain ⟨c0, c1, c2⟩ := nf_cells H0.out
  go_enter Try.func16, Try.ntmps16
  go_upto_region 1 with fail
  rw [← HB.out, ← HW.out]
  clear HW
  go_wp2_with fail
  refine (heldArcs_any lo hi a n cap K W (HA.out.1.below HBW.out HH.out) hm (by omega)).mono ?_
  rintro e w1 ⟨rfl, rfl⟩
  obtain ⟨K2, HK2⟩ : ∃ K2, Hid (K2 = K + n * 3) := ⟨_, rfl⟩
  rw [← HK2.out] at HA ⊢
  have hk2 : ¬ (K2 : Int) < 0 := by omega
  go_wp2_with fail
  refine (heldBools_any lo hi b m mc K2 _ (HA.out.2.below HBW.out HH.out) hm2 (by have := HK2.out; omega)).mono ?_
  rintro e w2 ⟨rfl, rfl⟩
  obtain ⟨x, HXX⟩ : ∃ x, Hid (x = K2 + m) := ⟨_, rfl⟩
  rw [← HXX.out]
  have hk3 : ¬ (x : Int) < 0 := by omega
  go_wp2
  go_ret
  exact ⟨x, rfl, by show x = _; rw [HXX.out, HK2.out], HBW⟩

open Go.ChangeShapes Go.WideShapes Go.ChangeAt Go.Deep in
set_option maxRecDepth 100000 in
/-- bools that came in, out of their reading -/
theorem bools_trod {H : Type} {enc : TypeId × Value → H} {W : World} {fuel : Nat} {v : Value} {x : DataW H × List MemPlace}
    (hf : DataW.trod enc Try.prog W 0 (fun _ => true) true fuel 27 [v] = some x) : ∃ (ao : Option Addr) (n cap : Nat) (l : List Bool), v = .slice ao n cap ∧ n ≤ maxLen ∧ l.length = n ∧ BlsIn 0 W.heap.size W ao l := by
  rcases open_slice Try.underlying27 hf with ⟨hcs, _⟩ | ⟨a, len, cap, m, n, D, Pl, hcs, _, hl, hm, hmm, _, hx⟩
  · simp at hcs
    subst hcs
    exact ⟨none, 0, 0, [], rfl, Nat.zero_le _, rfl, .inl rfl⟩
  · simp at hcs
    subst hcs
    have ce : Try.prog.cellsOf 4 = 1 := by kernel_rfl
    have hlm : len ≤ m := by rw [hmm]; simp; exact hl
    have each : ∀ i, i < len → ∃ q : Bool, W.cell? (a.add i) = some (.bool q) := by
      intro i hi
      obtain ⟨cs', h1, h2⟩ := hx i (by omega)
      rw [ce] at h1
      obtain ⟨_, hlen, hcell⟩ := World.cells?_some h1
      match cs', hlen with
      | [v0], _ =>
        obtain ⟨z0, e0, _⟩ := DataW.trod_bool Try.underlying4 h2
        simp at e0
        have q0 := hcell 0 (by omega)
        subst e0
        exact ⟨z0, by rw [add_add] at q0; simpa using q0⟩
    obtain ⟨f, hfn⟩ := choose_lt each
    have hgd : ∀ i, i < len → ((List.range len).map f).getD i false = f i := fun i hi => by simp [List.getD, hi]
    refine ⟨some a, len, cap, (List.range len).map f, rfl, by omega, by simp, ?_⟩
    by_cases h0 : len = 0
    · exact .inl (by subst h0; rfl)
    · obtain ⟨b, off, spot⟩ := a
      have c0 := hfn 0 (by omega)
      obtain rfl := spot_none (by simpa using c0)
      rw [add_none] at c0
      refine .inr ⟨b, off, rfl, Nat.zero_le _, lt_of_cell c0, fun i hi => ?_⟩
      simp at hi
      have c0 := hfn i hi
      rw [add_none] at c0
      rw [hgd i hi]
      exact c0
end Go.Proofs.Ytkcflhlipdnbnaa

/-
  spec.l07Put: an arc into a row of arcs.
-/
namespace Go.Proofs.Ytkcflhlipdnbnaa
open Go.RowKit

theorem arcs_own {B n e : Nat} {w : World} {v : Value} {l : List Ed} (h : w.ownsRow B e 3 v n (ecells l)) (hn : l.length = n) : ∃ a cap, v = .slice a n cap ∧ EdgesOwn B w.heap.size w a l := by
  rcases h.2 with ⟨rfl, h0⟩ | ⟨g, cap, cur, rfl, hg, hb, _⟩
  · exact ⟨none, 0, by rw [h0], .inl (List.length_eq_zero_iff.1 (by omega))⟩
  · refine ⟨_, cap, rfl, .inr ⟨g, rfl, hg, (Array.getElem?_eq_some_iff.1 hb).1, ?_⟩⟩
    unfold EBlk
    rw [hn]
    exact (blk_own h).congr fun i hi => by simp [ecells, List.getD, hn, hi]

set_option maxHeartbeats 4000000 in
set_option maxRecDepth 100000 in
theorem l07Put_any (lo hi : Nat) (a : Option Addr) (n cap : Nat) (l : List Ed) (e : Ed) (w : World) (ha : EdgesIn lo hi w a l) (hh : hi ≤ w.heap.size) (hn : l.length = n) (hm : n ≤ 1048576) :
    Calls Try.prog 74 #[.slice a n cap, ev e] w fun r w' => ∃ (a' : Option Addr) (n' cap' : Nat), r = .returned (.slice a' n' cap') ∧ Hid ((putE l e).length = n') ∧ Hid (w'.ownsRow w.heap.size 126 3 (.slice a' n' cap') n' (ecells (putE l e))) ∧ Hid (Below w.heap.size w w') := by
  have HN : Hid (l.length = n) := hn
  have HA : Hid (EdgesIn lo hi w a l) := ha
  have HH : Hid (hi ≤ w.heap.size) := hh
  obtain ⟨i0, hi0, hz0, hz1, hz2⟩ := info_parts Try.info126
  clear ha hh hn
  obtain ⟨B, HB⟩ : ∃ B, Hid (B = w.heap.size) := ⟨_, rfl⟩
  obtain ⟨F1, HF1⟩ : ∃ F : Nat → List Ed, Hid (F = fun k => (l.take k).filter (fun x => ltE x e)) := ⟨_, rfl⟩
  obtain ⟨F2, HF2⟩ : ∃ F : Nat → List Ed, Hid (F = fun k => (l.take k).filter (fun x => ltE e x)) := ⟨_, rfl⟩
  have HPUT : Hid (putE l e = F1 n ++ (e :: F2 n)) := by show _ = _; rw [HF1.out, HF2.out, ← HN.out]; simp only [List.take_length]; rfl
  have HL1 : Hid (∀ k, (F1 k).length ≤ k) := by intro k; rw [HF1.out]; exact filter_len l k
  have HL2 : Hid (∀ k, (F2 k).length ≤ k) := by intro k; rw [HF2.out]; exact filter_len l k
  obtain ⟨W0, HW0⟩ : ∃ W0, Hid (W0 = (w.alloc (.cells #[.int .i64 e.1, .int .u8 e.2.1, .int .i64 e.2.2] 126))) := ⟨_, rfl⟩
  have HK0 : Hid (Blk W0 B 3 (fun i => if i = 0 then .int .i64 e.1 else if i = 1 then .int .u8 e.2.1 else .int .i64 e.2.2)) := by rw [HW0.out]; exact blk_three w B HB.out _ _ _ _
  have HBW : Hid (Below w.heap.size w W0) := by rw [HW0.out]; exact below1 w _
  have HSW : Hid (W0.heap.size = B + 1) := by rw [HW0.out, HB.out]; show _ = _; simp
  have HAW : Hid (EdgesIn lo hi W0 a l) := HA.out.below HBW.out HH.out
  have HHW : Hid (hi ≤ W0.heap.size) := Nat.le_trans HH.out HBW.out.size
  have HST1 : Hid (∀ k, k < n → F1 (k + 1) = F1 k ++ (if ltE (eat l k) e = true then [eat l k] else [])) := by intro k hk; rw [HF1.out]; exact filter_step (by rw [HN.out]; exact hk)
  have HST2 : Hid (∀ k, k < n → F2 (k + 1) = F2 k ++ (if ltE e (eat l k) = true then [eat l k] else [])) := by intro k hk; rw [HF2.out]; exact filter_step (p := fun x => ltE e x) (by rw [HN.out]; exact hk)
  have HZ1 : Hid (F1 0 = []) := by rw [HF1.out]; rfl
  have HZ2 : Hid (F2 0 = []) := by rw [HF2.out]; rfl
  clear HF1 HF2
  obtain ⟨e0, e1, e2⟩ := e
  go_enter Try.func74, Try.ntmps74
  go_wp2
  rw [← HB.out]
  change Hid (W0 = w.alloc (.cells #[.int .i64 e0, .int .u8 e1, .int .i64 e2] 126)) at HW0
  rw [← HW0.out]
  clear HW0
  go_loopw [6, 5] (fun i v wr => ∃ k m : Nat, i = .int .i64 k ∧ k ≤ n ∧ Hid (wr.ownsRow (B + 1) 126 3 v m (ecells (F1 k))) ∧ Hid ((F1 k).length = m) ∧ Hid (Below (B + 1) W0 wr)) (fun i _ _ => n - (intOf i).toNat)
  case atStart =>
    refine ⟨0, 0, rfl, by omega, ?_, by show _ = _; rw [HZ1.out]; rfl, ?_⟩
    · rw [HZ1.out]
      show World.ownsRow _ _ _ _ _ _ []
      have := World.ownsRow_made W0 (base := B + 1) (e := 126) (size := 3) #[] 0 (by rw [HSW.out]; exact Nat.le_refl _) (Nat.zero_le _) rfl
      simpa [HSW.out] using this
    · exact (Below.refl _ _).alloc (by rw [HSW.out]; exact Nat.le_refl _) _
  case round =>
    obtain ⟨k, m, rfl, hk, HO, HM, HL⟩ := hrel
    have HKR : Hid (Blk wr B 3 (fun i => if i = 0 then .int .i64 e0 else if i = 1 then .int .u8 e1 else .int .i64 e2)) := HK0.out.of_block (HL.out.block _ (by omega))
    have hmk : m ≤ k := by rw [← HM.out]; exact HL1.out k
    by_cases hlt : k < n
    · have hlt1 : (k : Int) < (n : Int) := by omega
      have hlt0 : (0 : Int) ≤ (k : Int) := by omega
      have HBR : Hid (EdgesIn lo hi wr a l) := HAW.out.below HL.out (by have := HHW.out; have := HSW.out; omega)
      obtain ⟨b, o, rfl, _, _, hx⟩ := HBR.out.edge (k := k) (by rw [HN.out]; exact hlt)
      obtain ⟨x, HXX⟩ : ∃ x : Ed, Hid (x = eat l k) := ⟨_, rfl⟩
      rw [← HXX.out] at hx
      obtain ⟨q, HQ⟩ : ∃ q : Bool, Hid (q = ltE x (e0, e1, e2)) := ⟨_, rfl⟩
      have HSTEP : Hid (F1 (k + 1) = F1 k ++ (if q = true then [x] else [])) := by show _ = _; rw [HST1.out k hlt, HQ.out, HXX.out]
      obtain ⟨x0, x1, x2⟩ := x
      obtain ⟨p0, p1, p2⟩ := hx
      dsimp only at p0 p1 p2
      obtain ⟨c0, c1, c2⟩ := blk_three_set HKR.out
      have HKS : Hid (∀ w', Below wr.heap.size wr w' → ((w'.cell? ⟨B, 0, none⟩ = some (.int .i64 e0) ∧ w'.cell? ⟨B, 1, none⟩ = some (.int .u8 e1) ∧ w'.cell? ⟨B, 2, none⟩ = some (.int .i64 e2)) ∧ (w'.cell? ⟨b, o + k * 3, none⟩ = some (.int .i64 x0) ∧ w'.cell? ⟨b, o + k * 3 + 1, none⟩ = some (.int .u8 x1) ∧ w'.cell? ⟨b, o + k * 3 + 2, none⟩ = some (.int .i64 x2)))) := fun w' h => ⟨⟨cell_below c0 h (lt_of_cell c0), cell_below c1 h (lt_of_cell c1), cell_below c2 h (lt_of_cell c2)⟩, ⟨cell_below p0 h (lt_of_cell p0), cell_below p1 h (lt_of_cell p1), cell_below p2 h (lt_of_cell p2)⟩⟩
      have HC : Hid (∀ w0, Below wr.heap.size wr w0 → Calls Try.prog 75 #[ev (x0, x1, x2), ev (e0, e1, e2)] w0 fun e w' => e = .returned (.bool q) ∧ Hid (Below wr.heap.size wr w') ∧ ((w'.cell? ⟨B, 0, none⟩ = some (.int .i64 e0) ∧ w'.cell? ⟨B, 1, none⟩ = some (.int .u8 e1) ∧ w'.cell? ⟨B, 2, none⟩ = some (.int .i64 e2)) ∧ (w'.cell? ⟨b, o + k * 3, none⟩ = some (.int .i64 x0) ∧ w'.cell? ⟨b, o + k * 3 + 1, none⟩ = some (.int .u8 x1) ∧ w'.cell? ⟨b, o + k * 3 + 2, none⟩ = some (.int .i64 x2)))) := fun w0 h =>
        (specLess_arc _ _ q w0 HQ.out).mono fun _ _ ⟨h1, h2⟩ => have hk := h.trans (h2.out.mono h.size); ⟨h1, hk, HKS.out _ hk⟩
      go_wp2_with fail
      go_region_held3 (fun w' => (w'.cell? ⟨B, 0, none⟩ = some (.int .i64 e0) ∧ w'.cell? ⟨B, 1, none⟩ = some (.int .u8 e1) ∧ w'.cell? ⟨B, 2, none⟩ = some (.int .i64 e2)) ∧ (w'.cell? ⟨b, o + k * 3, none⟩ = some (.int .i64 x0) ∧ w'.cell? ⟨b, o + k * 3 + 1, none⟩ = some (.int .u8 x1) ∧ w'.cell? ⟨b, o + k * 3 + 2, none⟩ = some (.int .i64 x2))) (first | exact ⟨⟨c0, c1, c2⟩, ⟨p0, p1, p2⟩⟩ | exact hk1) (first | (go_at_call 75; refine (HC.out _ ((Below.refl _ _).drew)).mono ?_; rintro e w1 ⟨rfl, HB1, hk1⟩))
      have hszr : B + 1 ≤ wr.heap.size := by have := HL.out.size; have := HSW.out; omega
      have HL1x : Hid (Below (B + 1) W0 w1) := HL.out.trans (HB1.out.mono hszr)
      have HO1x : Hid (w1.ownsRow (B + 1) 126 3 _ m (ecells (F1 k))) := owns_upto HO.out (fun k hk => (HO.out.lt k hk).2) (fun k _ hk => HB1.out.block k hk)
      have hsz1 : B + 1 ≤ w1.heap.size := Nat.le_trans hszr HB1.out.size
      obtain ⟨⟨_, _, _⟩, d0, d1, d2⟩ := hk1
      clear p0 p1 p2 c0 c1 c2 HKS HC
      rcases Bool.eq_false_or_eq_true q with hq | hq
      · subst hq
        obtain ⟨LL, HLL⟩ : ∃ LL, Hid (LL = F1 k) := ⟨_, rfl⟩
        rw [← HLL.out] at HO1x
        have hown := HO1x.out.alloc (.cells #[.int .i64 x0, .int .u8 x1, .int .i64 x2] 126)
        go_wp2_with (at_builtin; refine wpList_append_lies _ rfl (.tmp 21) (.tmp 26) 26 rfl (B + 1) 126 i0 _ 3 24 Try.underlying26 hi0 hz0 hz1 hz2 rfl (by decide) _ m (ecells LL) rfl hown ⟨w1.heap.size, 0, none⟩ 1 1 [.int .i64 x0, .int .u8 x1, .int .i64 x2] rfl rfl (news_three w1 _ _ _ _) (by simp [Value.oneCell']) (by decide) (by unfold maxLen; omega) (by omega) (by simp; omega) _ rfl ?_)
        intro g2 cap2 w2 hown2 hgrow2 _ _
        have HL2x : Hid (Below (B + 1) W0 w2) := (HL1x.out.alloc hsz1 _).grown hgrow2 (by simp; omega) (fun k hk => (HO1x.out.lt k hk).1)
        go_wp2
        go_roundw
        case rel =>
          have e9 : F1 (k + 1) = LL ++ [(x0, x1, x2)] := by rw [HLL.out, HSTEP.out]; simp
          refine ⟨k + 1, m + 1, by go_num, by omega, ?_, ?_, HL2x⟩
          · rw [e9, ecells_snoc]; exact hown2
          · show _ = _; rw [e9, List.length_append, HLL.out, HM.out]; rfl
        case measure => simp [intOf]; omega
      · subst hq
        go_wp2
        go_roundw
        case rel =>
          have e9 : F1 (k + 1) = (F1 k) := by rw [HSTEP.out]; simp
          refine ⟨k + 1, m, by go_num, by omega, ?_, ?_, HL1x⟩
          · rw [e9]; exact HO1x.out
          · show _ = _; rw [e9, HM.out]
        case measure => simp [intOf]; omega
    · obtain rfl : k = n := by omega
      obtain ⟨p0, p1, p2⟩ := blk_three_set HKR.out
      have hown := HO.out.alloc (.cells #[.int .i64 e0, .int .u8 e1, .int .i64 e2] 126)
      have hsz : B + 1 ≤ wr.heap.size := by have := HL.out.size; have := HSW.out; omega
      go_wp2_with (at_builtin; refine wpList_append_lies _ rfl (.tmp 28) (.tmp 30) 26 rfl (B + 1) 126 i0 _ 3 24 Try.underlying26 hi0 hz0 hz1 hz2 rfl (by decide) _ m (ecells (F1 k)) rfl hown ⟨wr.heap.size, 0, none⟩ 1 1 [.int .i64 e0, .int .u8 e1, .int .i64 e2] rfl rfl (news_three wr _ _ _ _) (by simp [Value.oneCell']) (by decide) (by unfold maxLen; omega) (by omega) (by simp; omega) _ rfl ?_)
      intro g1 cap1 w1 hown1 hgrow1 _ _
      have HO1 : Hid (w1.ownsRow (B + 1) 126 3 (.slice (some ⟨g1, 0, none⟩) (m + 1) cap1) (m + 1) (ecells (F1 k ++ [(e0, e1, e2)]))) := by rw [ecells_snoc]; exact hown1
      have HL1' : Hid (Below (B + 1) W0 w1) := (HL.out.alloc hsz _).grown hgrow1 (by simp; omega) (fun k hk => (HO.out.lt k hk).1)
      clear hown hown1 hgrow1 p0 p1 p2 HO HL
      go_wp2
      go_loopw [7, 5] (fun i v wq => ∃ k2 m2 : Nat, i = .int .i64 k2 ∧ k2 ≤ k ∧ Hid (wq.ownsRow (B + 1) 126 3 v m2 (ecells ((F1 k ++ [(e0, e1, e2)]) ++ F2 k2))) ∧ Hid (((F1 k ++ [(e0, e1, e2)]) ++ F2 k2).length = m2) ∧ Hid (Below (B + 1) W0 wq)) (fun i _ _ => k - (intOf i).toNat)
      case atStart =>
        refine ⟨0, m + 1, rfl, by omega, ?_, by show _ = _; rw [HZ2.out, List.append_nil, List.length_append, HM.out]; rfl, HL1'⟩
        rw [HZ2.out, List.append_nil]; exact HO1.out
      case round =>
        obtain ⟨k2, m2, rfl, hk2, HO, HM2, HL⟩ := hrel
        have HKR : Hid (Blk wr B 3 (fun i => if i = 0 then .int .i64 e0 else if i = 1 then .int .u8 e1 else .int .i64 e2)) := HK0.out.of_block (HL.out.block _ (by omega))
        have hm2 : m2 ≤ m + 1 + k2 := by rw [← HM2.out, List.length_append, List.length_append, HM.out]; have := HL2.out k2; simp; omega
        by_cases hlt : k2 < k
        · have hlt1 : (k2 : Int) < (k : Int) := by omega
          have hlt0 : (0 : Int) ≤ (k2 : Int) := by omega
          have HBR : Hid (EdgesIn lo hi wr a l) := HAW.out.below HL.out (by have := HHW.out; have := HSW.out; omega)
          obtain ⟨b, o, rfl, _, _, hx⟩ := HBR.out.edge (k := k2) (by rw [HN.out]; exact hlt)
          obtain ⟨x, HXX⟩ : ∃ x : Ed, Hid (x = eat l k2) := ⟨_, rfl⟩
          rw [← HXX.out] at hx
          obtain ⟨q, HQ⟩ : ∃ q : Bool, Hid (q = ltE (e0, e1, e2) x) := ⟨_, rfl⟩
          have HSTEP : Hid (F2 (k2 + 1) = F2 k2 ++ (if q = true then [x] else [])) := by show _ = _; rw [HST2.out k2 hlt, HQ.out, HXX.out]
          obtain ⟨x0, x1, x2⟩ := x
          obtain ⟨p0, p1, p2⟩ := hx
          dsimp only at p0 p1 p2
          obtain ⟨c0, c1, c2⟩ := blk_three_set HKR.out
          have HKS : Hid (∀ w', Below wr.heap.size wr w' → ((w'.cell? ⟨B, 0, none⟩ = some (.int .i64 e0) ∧ w'.cell? ⟨B, 1, none⟩ = some (.int .u8 e1) ∧ w'.cell? ⟨B, 2, none⟩ = some (.int .i64 e2)) ∧ (w'.cell? ⟨b, o + k2 * 3, none⟩ = some (.int .i64 x0) ∧ w'.cell? ⟨b, o + k2 * 3 + 1, none⟩ = some (.int .u8 x1) ∧ w'.cell? ⟨b, o + k2 * 3 + 2, none⟩ = some (.int .i64 x2)))) := fun w' h => ⟨⟨cell_below c0 h (lt_of_cell c0), cell_below c1 h (lt_of_cell c1), cell_below c2 h (lt_of_cell c2)⟩, ⟨cell_below p0 h (lt_of_cell p0), cell_below p1 h (lt_of_cell p1), cell_below p2 h (lt_of_cell p2)⟩⟩
          have HC : Hid (∀ w0, Below wr.heap.size wr w0 → Calls Try.prog 75 #[ev (e0, e1, e2), ev (x0, x1, x2)] w0 fun e w' => e = .returned (.bool q) ∧ Hid (Below wr.heap.size wr w') ∧ ((w'.cell? ⟨B, 0, none⟩ = some (.int .i64 e0) ∧ w'.cell? ⟨B, 1, none⟩ = some (.int .u8 e1) ∧ w'.cell? ⟨B, 2, none⟩ = some (.int .i64 e2)) ∧ (w'.cell? ⟨b, o + k2 * 3, none⟩ = some (.int .i64 x0) ∧ w'.cell? ⟨b, o + k2 * 3 + 1, none⟩ = some (.int .u8 x1) ∧ w'.cell? ⟨b, o + k2 * 3 + 2, none⟩ = some (.int .i64 x2)))) := fun w0 h =>
            (specLess_arc _ _ q w0 HQ.out).mono fun _ _ ⟨h1, h2⟩ => have hk := h.trans (h2.out.mono h.size); ⟨h1, hk, HKS.out _ hk⟩
          go_wp2_with fail
          go_region_held3 (fun w' => (w'.cell? ⟨B, 0, none⟩ = some (.int .i64 e0) ∧ w'.cell? ⟨B, 1, none⟩ = some (.int .u8 e1) ∧ w'.cell? ⟨B, 2, none⟩ = some (.int .i64 e2)) ∧ (w'.cell? ⟨b, o + k2 * 3, none⟩ = some (.int .i64 x0) ∧ w'.cell? ⟨b, o + k2 * 3 + 1, none⟩ = some (.int .u8 x1) ∧ w'.cell? ⟨b, o + k2 * 3 + 2, none⟩ = some (.int .i64 x2))) (first | exact ⟨⟨c0, c1, c2⟩, ⟨p0, p1, p2⟩⟩ | exact hk1) (first | (go_at_call 75; refine (HC.out _ ((Below.refl _ _).drew)).mono ?_; rintro e w1 ⟨rfl, HB1, hk1⟩))
          have hszr : B + 1 ≤ wr.heap.size := by have := HL.out.size; have := HSW.out; omega
          have HL1x : Hid (Below (B + 1) W0 w1) := HL.out.trans (HB1.out.mono hszr)
          have HO1x : Hid (w1.ownsRow (B + 1) 126 3 _ m2 (ecells ((F1 k ++ [(e0, e1, e2)]) ++ F2 k2))) := owns_upto HO.out (fun k hk => (HO.out.lt k hk).2) (fun k _ hk => HB1.out.block k hk)
          have hsz1 : B + 1 ≤ w1.heap.size := Nat.le_trans hszr HB1.out.size
          obtain ⟨⟨_, _, _⟩, d0, d1, d2⟩ := hk1
          clear p0 p1 p2 c0 c1 c2 HKS HC
          rcases Bool.eq_false_or_eq_true q with hq | hq
          · subst hq
            obtain ⟨LL, HLL⟩ : ∃ LL, Hid (LL = (F1 k ++ [(e0, e1, e2)]) ++ F2 k2) := ⟨_, rfl⟩
            rw [← HLL.out] at HO1x
            have hown := HO1x.out.alloc (.cells #[.int .i64 x0, .int .u8 x1, .int .i64 x2] 126)
            go_wp2_with (at_builtin; refine wpList_append_lies _ rfl (.tmp 44) (.tmp 49) 26 rfl (B + 1) 126 i0 _ 3 24 Try.underlying26 hi0 hz0 hz1 hz2 rfl (by decide) _ m2 (ecells LL) rfl hown ⟨w1.heap.size, 0, none⟩ 1 1 [.int .i64 x0, .int .u8 x1, .int .i64 x2] rfl rfl (news_three w1 _ _ _ _) (by simp [Value.oneCell']) (by decide) (by unfold maxLen; omega) (by omega) (by simp; omega) _ rfl ?_)
            intro g2 cap2 w2 hown2 hgrow2 _ _
            have HL2x : Hid (Below (B + 1) W0 w2) := (HL1x.out.alloc hsz1 _).grown hgrow2 (by simp; omega) (fun k hk => (HO1x.out.lt k hk).1)
            go_wp2
            go_roundw
            case rel =>
              have e9 : (F1 k ++ [(e0, e1, e2)]) ++ F2 (k2 + 1) = LL ++ [(x0, x1, x2)] := by rw [HLL.out, HSTEP.out]; simp
              refine ⟨k2 + 1, m2 + 1, by go_num, by omega, ?_, ?_, HL2x⟩
              · rw [e9, ecells_snoc]; exact hown2
              · show _ = _; rw [e9, List.length_append, HLL.out, HM2.out]; rfl
            case measure => simp [intOf]; omega
          · subst hq
            go_wp2
            go_roundw
            case rel =>
              have e9 : (F1 k ++ [(e0, e1, e2)]) ++ F2 (k2 + 1) = ((F1 k ++ [(e0, e1, e2)]) ++ F2 k2) := by rw [HSTEP.out]; simp
              refine ⟨k2 + 1, m2, by go_num, by omega, ?_, ?_, HL1x⟩
              · rw [e9]; exact HO1x.out
              · show _ = _; rw [e9, HM2.out]
            case measure => simp [intOf]; omega
        · obtain rfl : k2 = k := by omega
          have HFIN := HO.out
          rw [List.append_assoc, List.singleton_append, ← HPUT.out] at HFIN
          have HFL : Hid ((putE l (e0, e1, e2)).length = m2) := by have h := HM2.out; rw [List.append_assoc, List.singleton_append, ← HPUT.out] at h; exact h
          obtain ⟨a9, cap9, hv9, _⟩ := arcs_own HFIN HFL.out
          subst hv9
          have HFX : Hid (wr.ownsRow (B + 1) 126 3 (.slice a9 m2 cap9) m2 (ecells (putE l (e0, e1, e2)))) := HFIN
          clear HFIN
          go_wp2
          go_ret
          exact ⟨a9, m2, cap9, rfl, HFL, owns_low HFX.out (by rw [HB.out]; omega), HBW.out.trans (HL.out.mono (by rw [HB.out]; omega))⟩
end Go.Proofs.Ytkcflhlipdnbnaa
