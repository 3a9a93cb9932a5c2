/-
  Lists of bools: in, owned, held against one another, marked, held; out of their reading.
-/
import Derived.Test.YtdhkkabcgehjpaaEdC
import Derived.Test.YtdhkkabcgehjpaaHld
import Derived.Test.YtdhkkabcgehjpaaApp
import Derived.Laws.MakeOwn
namespace Go.Proofs.Ytdhkkabcgehjpaa
open Go.RowKit

/-- a row of ints that is reached by a slice; its block is one of lo .. hi - 1 -/
def BlsIn (lo hi : Nat) (w : World) (a : Option Addr) (l : List Bool) : Prop :=
  l = [] ∨ ∃ b o, a = some ⟨b, o, none⟩ ∧ lo ≤ b ∧ b < hi ∧ ∀ i, i < l.length → w.cell? ⟨b, o + i, none⟩ = some (.bool (l.getD i false))

theorem BlsIn.below {lo hi B : Nat} {w w' : World} {a : Option Addr} {l : List Bool} (h : BlsIn lo hi w a l) (hb : Below B w w') (hB : hi ≤ B) : BlsIn lo hi w' a l := by
  rcases h with h | ⟨b, o, e, h1, h2, h3⟩
  · exact .inl h
  · exact .inr ⟨b, o, e, h1, h2, fun i hi => cell_below (h3 i hi) hb (by omega)⟩

theorem BlsIn.wide {lo hi lo' hi' : Nat} {w : World} {a : Option Addr} {l : List Bool} (h : BlsIn lo hi w a l) (h1 : lo' ≤ lo) (h2 : hi ≤ hi') : BlsIn lo' hi' w a l := by
  rcases h with h | ⟨b, o, e, h3, h4, h5⟩
  · exact .inl h
  · exact .inr ⟨b, o, e, by omega, by omega, h5⟩

theorem BlsIn.num {lo hi : Nat} {w : World} {a : Option Addr} {l : List Bool} (h : BlsIn lo hi w a l) {i : Nat} (hi' : i < l.length) : ∃ b o, a = some ⟨b, o, none⟩ ∧ w.cell? ⟨b, o + i, none⟩ = some (.bool (l.getD i false)) := by
  rcases h with rfl | ⟨b, o, e, _, _, hc⟩
  · exact absurd hi' (by simp)
  · exact ⟨b, o, e, hc i hi'⟩
theorem info4B : (Try.prog.info? 4).map (fun i => (i.zero, i.size, i.bytes)) = some (some (.bool false), 1, 1) := by kernel_rfl
theorem BlsIn.kept {lo hi : Nat} {p : Nat → Prop} {w w' : World} {a : Option Addr} {l : List Bool} (h : BlsIn lo hi w a l) (hk : KeptP p w w') (hh : hi ≤ w.heap.size) (hp : ∀ k, lo ≤ k → k < hi → ¬ p k) : BlsIn lo hi w' a l := by
  rcases h with h | ⟨b, o, e, h1, h2, h3⟩
  · exact .inl h
  · exact .inr ⟨b, o, e, h1, h2, fun i hi => hk.cell (h3 i hi) (by omega) (hp b h1 h2)⟩

/-- a row that is owned: its block is its own -/
def BlsOwn (lo hi : Nat) (w : World) (a : Option Addr) (l : List Bool) : Prop :=
  l = [] ∨ ∃ b, a = some ⟨b, 0, none⟩ ∧ lo ≤ b ∧ b < hi ∧ Blk w b l.length (fun i => .bool (l.getD i false))

theorem BlsOwn.toIn {lo hi : Nat} {w : World} {a : Option Addr} {l : List Bool} (h : BlsOwn lo hi w a l) : BlsIn lo hi w a l := by
  rcases h with h | ⟨b, e, h1, h2, h3⟩
  · exact .inl h
  · exact .inr ⟨b, 0, e, h1, h2, fun i hi => by rw [Nat.zero_add]; exact h3.cell hi⟩
theorem BlsOwn.below {lo hi B : Nat} {w w' : World} {a : Option Addr} {l : List Bool} (h : BlsOwn lo hi w a l) (hb : Below B w w') (hB : hi ≤ B) : BlsOwn lo hi w' a l := by
  rcases h with h | ⟨b, e, h1, h2, h3⟩
  · exact .inl h
  · exact .inr ⟨b, e, h1, h2, h3.of_block (hb.block b (by omega))⟩
theorem BlsOwn.wide {lo hi lo' hi' : Nat} {w : World} {a : Option Addr} {l : List Bool} (h : BlsOwn lo hi w a l) (h1 : lo' ≤ lo) (h2 : hi ≤ hi') : BlsOwn lo' hi' w a l := by
  rcases h with h | ⟨b, e, h3, h4, h5⟩
  · exact .inl h
  · exact .inr ⟨b, e, by omega, by omega, h5⟩
theorem BlsOwn.kept {lo hi : Nat} {p : Nat → Prop} {w w' : World} {a : Option Addr} {l : List Bool} (h : BlsOwn lo hi w a l) (hk : KeptP p w w') (hp : ∀ c, lo ≤ c → c < hi → ¬ p c) : BlsOwn lo hi w' a l := by
  rcases h with h | ⟨b, e, h1, h2, h3⟩
  · exact .inl h
  · exact .inr ⟨b, e, h1, h2, hk.blk h3 (hp b h1 h2)⟩

theorem BlsOwn.setCellP {lo hi b j : Nat} {w : World} {a : Option Addr} {l : List Bool} (h : BlsOwn lo hi w a l) (hb : b < lo) (v : Value) : BlsOwn lo hi (w.setCell ⟨b, j, none⟩ v) a l := by
  rcases h with h | ⟨g, e, h1, h2, h3⟩
  · exact .inl h
  · exact .inr ⟨g, e, h1, h2, h3.of_block (Below.heap_setCell w ⟨b, j, none⟩ v g (by simp; omega))⟩

theorem extB_getD {l l' : List Bool} {n : Nat} (h1 : l.length = n) (h2 : l'.length = n) (h : ∀ j, j < n → l.getD j false = l'.getD j false) : l = l' := by
  apply List.ext_getElem (by omega)
  intro i hi hi'
  have := h i (by omega)
  simpa [List.getD, hi, hi'] using this

set_option maxHeartbeats 400000 in
theorem szBools_yes (a : Option Addr) (n cap L : Nat) (w : World) (hm : n ≤ 9223372036854775807) (hL : L ≤ 1048576) (h : n ≤ L) :
    Calls Try.prog 28 #[.slice a n cap, .int .i64 (L : Int)] w fun e w' => e = .returned (.int .i64 ((L - n : Nat) : Int)) ∧ w = w' := by
  have e : ((L - n : Nat) : Int) = (L : Int) - (n : Int) := by omega
  have hn : ¬ (L : Int) - (n : Int) < 0 := by omega
  rw [e]
  go_enter Try.func28, Try.ntmps28
  go_wp2
  go_ret
  exact ⟨rfl, rfl⟩
set_option maxHeartbeats 400000 in
theorem szBools_no (a : Option Addr) (n cap L : Nat) (w : World) (hm : n ≤ 9223372036854775807) (hL : L ≤ 1048576) (h : L < n) :
    Calls Try.prog 28 #[.slice a n cap, .int .i64 (L : Int)] w fun e w' => e = .returned (.int .i64 (-1)) ∧ w = w' := by
  have hn : (L : Int) - (n : Int) < 0 := by omega
  go_enter Try.func28, Try.ntmps28
  go_wp2
  go_ret
  exact ⟨rfl, rfl⟩
set_option maxHeartbeats 1000000 in
set_option maxRecDepth 100000 in
theorem toBools_any (lo hi : Nat) (a : Option Addr) (n cap : Nat) (l : List Bool) (w : World) (ha : BlsIn lo hi w a l) (hh : hi ≤ w.heap.size) (hn : l.length = n) (hm : n ≤ 1048576) :
    Calls Try.prog 31 #[.slice a n cap] w fun e w' => e = .returned (.slice (some ⟨w.heap.size, 0, none⟩) n n) ∧ BlsOwn w.heap.size w'.heap.size w' (some ⟨w.heap.size, 0, none⟩) l ∧ Below w.heap.size w w' ∧ w'.heap.size = w.heap.size + 1 := by
  have HN : Hid (l.length = n) := hn
  have HA : Hid (BlsIn lo hi w a l) := ha
  have HH : Hid (hi ≤ w.heap.size) := hh
  have hmk := run_make_row' (P := Try.prog) 23 4 (.bool false) 1 Try.underlying23 info4B rfl .i64 .i64 n (by omega) (by omega)
  clear ha hn hh
  go_enter Try.func31, Try.ntmps31
  go_wp2
  go_loopw [4] (fun i wr => ∃ k : Nat, i = .int .i64 k ∧ k ≤ n ∧ Hid (Blk wr w.heap.size n (fun j => if j < k then .bool (l.getD j false) else .bool false)) ∧ Hid (Below w.heap.size w wr) ∧ wr.heap.size = w.heap.size + 1) (fun i _ => n - (intOf i).toNat)
  case atStart =>
    refine ⟨0, rfl, by omega, ?_, below1 _ _, by simp⟩
    obtain ⟨c, hb, hn', hc⟩ := World.rowIs_made w (.bool false) n 4
    exact ⟨c, 4, hb, fun i hi => by rw [hc i hi]; simp⟩
  case round =>
    obtain ⟨k, rfl, hk, HB, HL, hsz⟩ := hrel
    by_cases hlt : k < n
    · have hlt1 : (k : Int) < (n : Int) := by omega
      obtain ⟨b, o, rfl, h1, h2, hc⟩ : ∃ b o, a = some ⟨b, o, none⟩ ∧ lo ≤ b ∧ b < hi ∧ ∀ i, i < l.length → w.cell? ⟨b, o + i, none⟩ = some (.bool (l.getD i false)) := by
        rcases HA.out with rfl | h
        · exact absurd HN.out (by simp; omega)
        · exact h
      have hca := cell_below (hc k (by rw [HN.out]; exact hlt)) HL.out (by have := HH.out; omega)
      clear hc h1 h2
      have hcb := HB.out.cell hlt
      have hfb := HB.out.frozen k
      go_wp2
      go_roundw
      case rel =>
        refine ⟨k + 1, by go_num, by omega, ?_, HL.out.setCell (Nat.le_refl _) _, by simpa using hsz⟩
        refine (HB.out.set k hlt _).congr fun j hj => ?_
        by_cases e : j = k
        · subst e; simp
        · by_cases e2 : j < k
          · simp [e, e2, show j < k + 1 by omega]
          · simp [e, e2, show ¬ j < k + 1 by omega]
      case measure => simp [intOf]; omega
    · go_wp2
      go_ret
      refine ⟨rfl, ?_, HL.out, hsz⟩
      by_cases h0 : l = []
      · exact .inl h0
      · refine .inr ⟨_, rfl, Nat.le_refl _, by omega, ?_⟩
        rw [HN.out]
        exact HB.out.congr fun j hj => by simp [show j < k by omega]
/-- toIntS, its answer behind a letter -/
theorem toBL (lo hi : Nat) (a : Option Addr) (n cap : Nat) (l : List Bool) (w : World) (ha : BlsIn lo hi w a l) (hh : hi ≤ w.heap.size) (hn : l.length = n) (hm : n ≤ 1048576) :
    Calls Try.prog 31 #[.slice a n cap] w fun e w' => ∃ g : Nat, e = .returned (.slice (some ⟨g, 0, none⟩) n n) ∧ Hid (BlsOwn w.heap.size w'.heap.size w' (some ⟨g, 0, none⟩) l) ∧ Hid (Below w.heap.size w w') :=
  (toBools_any lo hi a n cap l w ha hh hn hm).mono fun _ _ ⟨h1, h2, h3, _⟩ => ⟨_, h1, h2, h3⟩
set_option maxHeartbeats 1000000 in
set_option maxRecDepth 100000 in
theorem eqBools_any_q (lo hi lo' hi' : Nat) (a a' : Option Addr) (n n' cap cap' : Nat) (l l' : List Bool) (r : Bool) (w : World) (ha : BlsIn lo hi w a l) (hb : BlsIn lo' hi' w a' l') (hn : l.length = n) (hn' : l'.length = n') (hm : n ≤ 1048576) (hr : r = decide (l = l')) :
    Calls Try.prog 38 #[.slice a n cap, .slice a' n' cap'] w fun e w' => e = .returned (.bool r) ∧ Drawn w w' := by
  by_cases hne : n = n'
  · subst hne
    have HN : Hid (l.length = n) := hn
    have HN' : Hid (l'.length = n) := hn'
    have HR : Hid (r = decide (l = l')) := hr
    clear hn hn' hr
    by_cases h0 : n = 0
    · subst h0
      have HT : Hid (r = true) := by
        have h1 := HN.out; have h2 := HN'.out
        show r = true
        rw [HR.out]; simp [List.length_eq_zero_iff.1 h1, List.length_eq_zero_iff.1 h2]
      clear ha hb
      go_enter Try.func38, Try.ntmps38
      go_wp2
      go_loop [5] (fun i => i = .int .i64 0) (fun _ => 0)
      case atStart => rfl
      case round =>
        subst hrel
        go_wp2
        go_ret
        exact ⟨by rw [HT.out]; rfl, Drawn.refl _⟩
    · obtain ⟨b, o, rfl, _, _, hc⟩ : ∃ b o, a = some ⟨b, o, none⟩ ∧ lo ≤ b ∧ b < hi ∧ ∀ i, i < l.length → w.cell? ⟨b, o + i, none⟩ = some (.bool (l.getD i false)) := by
        rcases ha with rfl | h
        · exact absurd HN.out (by simp; omega)
        · exact h
      obtain ⟨b', o', rfl, _, _, hc'⟩ : ∃ b o, a' = some ⟨b, o, none⟩ ∧ lo' ≤ b ∧ b < hi' ∧ ∀ i, i < l'.length → w.cell? ⟨b, o + i, none⟩ = some (.bool (l'.getD i false)) := by
        rcases hb with rfl | h
        · exact absurd HN'.out (by simp; omega)
        · exact h
      have HC : Hid (∀ i, i < n → w.cell? ⟨b, o + i, none⟩ = some (.bool (l.getD i false))) := by have := HN.out; intro i hi; exact hc i (by omega)
      have HC' : Hid (∀ i, i < n → w.cell? ⟨b', o' + i, none⟩ = some (.bool (l'.getD i false))) := by have := HN'.out; intro i hi; exact hc' i (by omega)
      clear ha hb hc hc'
      go_enter Try.func38, Try.ntmps38
      go_wp2
      go_loopw [5] (fun i wr => ∃ k : Nat, i = .int .i64 k ∧ k ≤ n ∧ Hid (∀ j, j < k → l.getD j false = l'.getD j false) ∧ ∃ q, wr = w.drewN q) (fun i _ => n - (intOf i).toNat)
      case atStart => exact ⟨0, rfl, by omega, fun j hj => absurd hj (by omega), 0, rfl⟩
      case round =>
        obtain ⟨k, rfl, hk, HE, q, rfl⟩ := hrel
        by_cases hlt : k < n
        · have hca := HC.out k hlt
          have hcb := HC'.out k hlt
          obtain ⟨x, hx⟩ : ∃ x, x = l.getD k false := ⟨_, rfl⟩
          obtain ⟨y, hy⟩ : ∃ y, y = l'.getD k false := ⟨_, rfl⟩
          rw [← hx] at hca
          rw [← hy] at hcb
          have HX : Hid (x = l.getD k false) := hx
          have HY : Hid (y = l'.getD k false) := hy
          clear hx hy
          have hlt1 : (k : Int) < (n : Int) := by omega
          by_cases hxy : x = y
          · subst hxy
            have HXY : Hid (l.getD k false = l'.getD k false) := by show _ = _; rw [← HX.out, ← HY.out]
            clear HX HY
            cases x
            all_goals
             go_wp2_with fail
             go_quiet (fail)
             go_wp2
             go_roundw
             case rel =>
              refine ⟨k + 1, by go_num, by omega, ?_, _, rfl⟩
              intro j hj
              rcases Nat.lt_or_ge j k with h | h
              · exact HE.out j h
              · obtain rfl : j = k := by omega
                exact HXY.out
             case measure => simp [intOf]; omega
          · have hf : Hid (r = false) := by
              show _ = _
              rw [HR.out]; simp only [decide_eq_false_iff_not]
              intro e
              exact hxy (by rw [HX.out, HY.out, e])
            clear HX HY
            cases x <;> cases y
            all_goals first | exact absurd rfl hxy | skip
            all_goals
             go_wp2_with fail
             go_quiet (fail)
             go_wp2
             go_ret
             refine ⟨?_, ((Drawn.refl _).drewN _).drewN _⟩
             rw [hf.out]; rfl
        · go_wp2
          go_ret
          refine ⟨?_, (Drawn.refl _).drewN _⟩
          have ht : r = true := by
            rw [HR.out]; simp only [decide_eq_true_eq]
            exact extB_getD HN.out HN'.out (fun j hj => HE.out j (by omega))
          rw [ht]; rfl
  · have hf : r = false := by
      rw [hr]; simp only [decide_eq_false_iff_not]
      intro e; subst e; omega
    subst hf
    clear ha hb hr hn hn'
    go_enter Try.func38, Try.ntmps38
    go_wp2
    go_ret
    exact ⟨rfl, Drawn.refl _⟩

theorem eqBools_any (lo hi lo' hi' : Nat) (a a' : Option Addr) (n n' cap cap' : Nat) (l l' : List Bool) (r : Bool) (w : World) (ha : BlsIn lo hi w a l) (hb : BlsIn lo' hi' w a' l') (hn : l.length = n) (hn' : l'.length = n') (hm : n ≤ 1048576) (hr : r = decide (l = l')) :
    Calls Try.prog 38 #[.slice a n cap, .slice a' n' cap'] w fun e w' => e = .returned (.bool r) ∧ Below w.heap.size w w' :=
  (eqBools_any_q lo hi lo' hi' a a' n n' cap cap' l l' r w ha hb hn hn' hm hr).mono fun _ _ h => ⟨h.1, h.2.below⟩

/-- marks from K on -/
def mkB (K : Nat) : Bool := (((K : Nat) : Int) % 3 == 0)
def marksB (K n : Nat) : List Bool := (List.range n).map fun i => mkB (K + i)
theorem marksB_len (K n : Nat) : (marksB K n).length = n := by simp [marksB]
theorem marksB_get {K n i : Nat} (h : i < n) : (marksB K n).getD i false = mkB (K + i) := by simp [marksB, List.getD, h]
set_option maxHeartbeats 1000000 in
set_option maxRecDepth 100000 in
theorem markBools_any (p : Nat → Prop) (lo hi : Nat) (a : Option Addr) (n cap K : Nat) (l : List Bool) (w : World) (ha : BlsOwn lo hi w a l) (hn : l.length = n) (hm : n ≤ 1048576) (hK : K ≤ 1099511627776) (hp : ∀ b, a = some ⟨b, 0, none⟩ → l ≠ [] → p b) :
    Calls Try.prog 49 #[.slice a n cap, .int .i64 (K : Int)] w fun e w' => e = .returned (.int .i64 ((K + n : Nat) : Int)) ∧ BlsOwn lo hi w' a (marksB K n) ∧ KeptP p w w' ∧ w'.heap.size = w.heap.size := by
  have HN : Hid (l.length = n) := hn
  by_cases h0 : n = 0
  · subst h0
    clear ha hn hp
    go_enter Try.func49, Try.ntmps49
    go_wp2
    go_loop [5, 1] (fun i k => i = .int .i64 0 ∧ k = .int .i64 (K : Int)) (fun _ _ => 0)
    case atStart => exact ⟨rfl, rfl⟩
    case round =>
      obtain ⟨rfl, rfl⟩ := hrel
      go_wp2
      go_ret
      exact ⟨rfl, .inl (by simp [marksB]), KeptP.refl _ _, rfl⟩
  · obtain ⟨b, rfl, h1, h2, hb⟩ : ∃ b, a = some ⟨b, 0, none⟩ ∧ lo ≤ b ∧ b < hi ∧ Blk w b l.length (fun i => .bool (l.getD i false)) := by
      rcases ha with rfl | h
      · exact absurd HN.out (by simp; omega)
      · exact h
    have HP : Hid (p b) := hp b rfl (by intro e; subst e; exact h0 (by simpa using hn.symm))
    have HX : Hid (lo ≤ b ∧ b < hi) := ⟨h1, h2⟩
    have HB0 : Hid (Blk w b n (fun i => .bool (l.getD i false))) := by rw [hn] at hb; exact hb
    clear ha hb hn hp h1 h2
    go_enter Try.func49, Try.ntmps49
    go_wp2
    go_loopw [5, 1] (fun i s wr => ∃ k : Nat, i = .int .i64 k ∧ s = .int .i64 ((K + k : Nat) : Int) ∧ k ≤ n ∧ Hid (Blk wr b n (fun j => if j < k then .bool (mkB (K + j)) else .bool (l.getD j false))) ∧ Hid (KeptP p w wr) ∧ wr.heap.size = w.heap.size) (fun i _ _ => n - (intOf i).toNat)
    case atStart => exact ⟨0, rfl, rfl, by omega, HB0.out.congr (fun i _ => by simp), KeptP.refl _ _, rfl⟩
    case round =>
      obtain ⟨k, rfl, rfl, hk, HB, HL, hsz⟩ := hrel
      by_cases hlt : k < n
      · have hlt1 : (k : Int) < (n : Int) := by omega
        have hcb := HB.out.cell hlt
        have hfb := HB.out.frozen k
        go_wp2
        go_roundw
        case rel =>
          refine ⟨k + 1, by go_num, by go_num, by omega, ?_, HL.out.setCell HP.out _, by simpa using hsz⟩
          refine (HB.out.set k hlt _).congr fun j hj => ?_
          by_cases e : j = k
          · subst e; simp [mkB]
          · by_cases e2 : j < k
            · simp [e, e2, show j < k + 1 by omega]
            · simp [e, e2, show ¬ j < k + 1 by omega]
        case measure => simp [intOf]; omega
      · obtain rfl : k = n := by omega
        go_wp2
        go_ret
        refine ⟨rfl, .inr ⟨b, rfl, HX.out.1, HX.out.2, ?_⟩, HL.out, hsz⟩
        rw [marksB_len]
        exact HB.out.congr fun j hj => by rw [marksB_get hj, if_pos hj]

set_option maxHeartbeats 1000000 in
set_option maxRecDepth 100000 in
theorem heldBools_any (lo hi : Nat) (a : Option Addr) (n cap K : Nat) (w : World) (ha : BlsIn lo hi w a (marksB K n)) (hm : n ≤ 1048576) (hK : K ≤ 1099511627776) :
    Calls Try.prog 55 #[.slice a n cap, .int .i64 (K : Int)] w fun e w' => e = .returned (.int .i64 ((K + n : Nat) : Int)) ∧ w = w' := by
  have HA : Hid (BlsIn lo hi w a (marksB K n)) := ha
  clear ha
  go_enter Try.func55, Try.ntmps55
  go_wp2
  go_loop [5, 1] (fun i s => ∃ k : Nat, i = .int .i64 k ∧ s = .int .i64 ((K + k : Nat) : Int) ∧ k ≤ n) (fun i _ => n - (intOf i).toNat)
  case atStart => exact ⟨0, rfl, rfl, by omega⟩
  case round =>
    obtain ⟨k, rfl, rfl, hk⟩ := hrel
    by_cases hlt : k < n
    · have hlt1 : (k : Int) < (n : Int) := by omega
      obtain ⟨b, o, rfl, h1, h2, hc⟩ : ∃ b o, a = some ⟨b, o, none⟩ ∧ lo ≤ b ∧ b < hi ∧ ∀ i, i < (marksB K n).length → w.cell? ⟨b, o + i, none⟩ = some (.bool ((marksB K n).getD i false)) := by
        rcases HA.out with h | h
        · exact absurd (marksB_len K n) (by rw [h]; simp; omega)
        · exact h
      have hca := hc k (by rw [marksB_len]; exact hlt)
      rw [marksB_get hlt] at hca
      clear hc h1 h2
      obtain ⟨B, HB⟩ : ∃ B, B = mkB (K + k) := ⟨_, rfl⟩
      rw [← HB] at hca
      have hb : ((((K : Nat) : Int) + ((k : Nat) : Int)) % 3 == 0) = B := by rw [HB]; simp [mkB]
      clear HB
      cases B
      all_goals
       go_wp2
       go_roundw
       case rel => exact ⟨k + 1, by go_num, by go_num, by omega⟩
       case measure => simp [intOf]; omega
    · obtain rfl : k = n := by omega
      go_wp2
      go_ret
      exact ⟨rfl, rfl⟩
end Go.Proofs.Ytdhkkabcgehjpaa
