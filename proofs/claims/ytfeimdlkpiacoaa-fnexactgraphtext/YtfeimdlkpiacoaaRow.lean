/-
  Rows of ints: how one lies in the world; the functions that go through one or two of them.
-/
import Derived.Test.YtfeimdlkpiacoaaCur
namespace Go.Proofs.Ytfeimdlkpiacoaa
open Go.RowKit

/-- a row of ints that is reached by a slice; its block is one of lo .. hi - 1 -/
def RowIn (lo hi : Nat) (w : World) (a : Option Addr) (l : List Int) : Prop :=
  l = [] ∨ ∃ b o, a = some ⟨b, o, none⟩ ∧ lo ≤ b ∧ b < hi ∧ ∀ i, i < l.length → w.cell? ⟨b, o + i, none⟩ = some (.int .i64 (l.getD i 0))

theorem cell_below {w w' : World} {hi b o : Nat} {v : Value} (h : w.cell? ⟨b, o, none⟩ = some v) (hb : Below hi w w') (hi' : b < hi) : w'.cell? ⟨b, o, none⟩ = some v := by
  rw [← h]; unfold World.cell?; rw [hb.block b hi']

theorem RowIn.below {lo hi B : Nat} {w w' : World} {a : Option Addr} {l : List Int} (h : RowIn lo hi w a l) (hb : Below B w w') (hB : hi ≤ B) : RowIn lo hi w' a l := by
  rcases h with h | ⟨b, o, e, h1, h2, h3⟩
  · exact .inl h
  · exact .inr ⟨b, o, e, h1, h2, fun i hi => cell_below (h3 i hi) hb (by omega)⟩

theorem RowIn.wide {lo hi lo' hi' : Nat} {w : World} {a : Option Addr} {l : List Int} (h : RowIn lo hi w a l) (h1 : lo' ≤ lo) (h2 : hi ≤ hi') : RowIn lo' hi' w a l := by
  rcases h with h | ⟨b, o, e, h3, h4, h5⟩
  · exact .inl h
  · exact .inr ⟨b, o, e, by omega, by omega, h5⟩

/-- as it was, but for draws -/
def Drawn (w w' : World) : Prop := ∃ m, w' = w.drewN m
theorem Drawn.refl (w : World) : Drawn w w := ⟨0, rfl⟩
theorem Drawn.drewN {a w : World} (h : Drawn a w) (n : Nat) : Drawn a (w.drewN n) := by
  obtain ⟨m, rfl⟩ := h
  exact ⟨m + n, World.drewN_drewN _ _ _⟩
theorem Drawn.below {w w' : World} (h : Drawn w w') : Below w.heap.size w w' := by
  obtain ⟨m, rfl⟩ := h
  exact below_drewN (Below.refl _ _) _

theorem ext_getD {l l' : List Int} {n : Nat} (h1 : l.length = n) (h2 : l'.length = n) (h : ∀ j, j < n → l.getD j 0 = l'.getD j 0) : l = l' := by
  apply List.ext_getElem (by omega)
  intro i hi hi'
  have := h i (by omega)
  simpa [List.getD, hi, hi'] using this

theorem getD_of_eq {l l' : List Int} (h : l = l') (k : Nat) : l.getD k 0 = l'.getD k 0 := by rw [h]

set_option maxHeartbeats 1000000 in
set_option maxRecDepth 100000 in
theorem eqInts_any_q (lo hi lo' hi' : Nat) (a a' : Option Addr) (n n' cap cap' : Nat) (l l' : List Int) (r : Bool) (w : World) (ha : RowIn lo hi w a l) (hb : RowIn lo' hi' w a' l') (hn : l.length = n) (hn' : l'.length = n') (hm : n ≤ 1048576) (hr : r = decide (l = l')) :
    Calls Try.prog 21 #[.slice a n cap, .slice a' n' cap'] w fun e w' => e = .returned (.bool r) ∧ Drawn w w' := by
  by_cases hne : n = n'
  · subst hne
    have HN : Hid (l.length = n) := hn
    have HN' : Hid (l'.length = n) := hn'
    have HR : Hid (r = decide (l = l')) := hr
    clear hn hn' hr
    by_cases h0 : n = 0
    · subst h0
      have HT : Hid (r = true) := by
        have h1 := HN.out; have h2 := HN'.out
        show r = true
        rw [HR.out]; simp [List.length_eq_zero_iff.1 h1, List.length_eq_zero_iff.1 h2]
      clear ha hb
      go_enter Try.func21, Try.ntmps21
      go_wp2
      go_loop [5] (fun i => i = .int .i64 0) (fun _ => 0)
      case atStart => rfl
      case round =>
        subst hrel
        go_wp2
        go_ret
        exact ⟨by rw [HT.out]; rfl, Drawn.refl _⟩
    · obtain ⟨b, o, rfl, _, _, hc⟩ : ∃ b o, a = some ⟨b, o, none⟩ ∧ lo ≤ b ∧ b < hi ∧ ∀ i, i < l.length → w.cell? ⟨b, o + i, none⟩ = some (.int .i64 (l.getD i 0)) := by
        rcases ha with rfl | h
        · exact absurd HN.out (by simp; omega)
        · exact h
      obtain ⟨b', o', rfl, _, _, hc'⟩ : ∃ b o, a' = some ⟨b, o, none⟩ ∧ lo' ≤ b ∧ b < hi' ∧ ∀ i, i < l'.length → w.cell? ⟨b, o + i, none⟩ = some (.int .i64 (l'.getD i 0)) := by
        rcases hb with rfl | h
        · exact absurd HN'.out (by simp; omega)
        · exact h
      have HC : Hid (∀ i, i < n → w.cell? ⟨b, o + i, none⟩ = some (.int .i64 (l.getD i 0))) := by have := HN.out; intro i hi; exact hc i (by omega)
      have HC' : Hid (∀ i, i < n → w.cell? ⟨b', o' + i, none⟩ = some (.int .i64 (l'.getD i 0))) := by have := HN'.out; intro i hi; exact hc' i (by omega)
      clear ha hb hc hc'
      go_enter Try.func21, Try.ntmps21
      go_wp2
      go_loopw [5] (fun i wr => ∃ k : Nat, i = .int .i64 k ∧ k ≤ n ∧ Hid (∀ j, j < k → l.getD j 0 = l'.getD j 0) ∧ ∃ q, wr = w.drewN q) (fun i _ => n - (intOf i).toNat)
      case atStart => exact ⟨0, rfl, by omega, fun j hj => absurd hj (by omega), 0, rfl⟩
      case round =>
        obtain ⟨k, rfl, hk, HE, q, rfl⟩ := hrel
        by_cases hlt : k < n
        · have hca := HC.out k hlt
          have hcb := HC'.out k hlt
          obtain ⟨x, hx⟩ : ∃ x, x = l.getD k 0 := ⟨_, rfl⟩
          obtain ⟨y, hy⟩ : ∃ y, y = l'.getD k 0 := ⟨_, rfl⟩
          rw [← hx] at hca
          rw [← hy] at hcb
          have HX : Hid (x = l.getD k 0) := hx
          have HY : Hid (y = l'.getD k 0) := hy
          clear hx hy
          have hlt1 : (k : Int) < (n : Int) := by omega
          by_cases hxy : x = y
          · subst hxy
            go_wp2_with fail
            go_quiet (fail)
            go_wp2
            go_roundw
            case rel =>
              refine ⟨k + 1, by go_num, by omega, ?_, _, rfl⟩
              intro j hj
              rcases Nat.lt_or_ge j k with h | h
              · exact HE.out j h
              · obtain rfl : j = k := by omega
                rw [← HX.out, ← HY.out]
            case measure => simp [intOf]; omega
          · go_wp2_with fail
            go_quiet (fail)
            go_wp2
            go_ret
            refine ⟨?_, ((Drawn.refl _).drewN _).drewN _⟩
            have hf : r = false := by
              rw [HR.out]; simp only [decide_eq_false_iff_not]
              intro e
              exact hxy (by rw [HX.out, HY.out, e])
            rw [hf]; rfl
        · go_wp2
          go_ret
          refine ⟨?_, (Drawn.refl _).drewN _⟩
          have ht : r = true := by
            rw [HR.out]; simp only [decide_eq_true_eq]
            exact ext_getD HN.out HN'.out (fun j hj => HE.out j (by omega))
          rw [ht]; rfl
  · have hf : r = false := by
      rw [hr]; simp only [decide_eq_false_iff_not]
      intro e; subst e; omega
    subst hf
    clear ha hb hr hn hn'
    go_enter Try.func21, Try.ntmps21
    go_wp2
    go_ret
    exact ⟨rfl, Drawn.refl _⟩

theorem eqInts_any (lo hi lo' hi' : Nat) (a a' : Option Addr) (n n' cap cap' : Nat) (l l' : List Int) (r : Bool) (w : World) (ha : RowIn lo hi w a l) (hb : RowIn lo' hi' w a' l') (hn : l.length = n) (hn' : l'.length = n') (hm : n ≤ 1048576) (hr : r = decide (l = l')) :
    Calls Try.prog 21 #[.slice a n cap, .slice a' n' cap'] w fun e w' => e = .returned (.bool r) ∧ Below w.heap.size w w' :=
  (eqInts_any_q lo hi lo' hi' a a' n n' cap cap' l l' r w ha hb hn hn' hm hr).mono fun _ _ h => ⟨h.1, h.2.below⟩

end Go.Proofs.Ytfeimdlkpiacoaa
