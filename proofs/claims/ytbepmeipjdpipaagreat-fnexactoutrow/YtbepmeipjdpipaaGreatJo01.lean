import Derived.Test.YtbepmeipjdpipaaGreatRows
import Derived.WalkKit
import Derived.WalkSpells
import Derived.WalkLawsBesides
import Derived.Lib.Strings
import Derived.BigQuiet
import Derived.Deep.RegionHeld
import Derived.Deep.AppendLies
import Derived.Laws.OwnMore
import Derived.Deep.OwnRows
import Derived.Lib.SliceRun
import Derived.ProofKit
import Derived.OpenShut
import Derived.ChangeOld
import Derived.Deep.SlicePairs
import Derived.Laws.MakeOwn
import Derived.Deep.RegionHeld3
import Derived.WideShapes
namespace Go.Proofs.YtbepmeipjdpipaaGreat
open Go.RowKit
def bv (b : UInt8) : Value := .int .u8 (b.toNat : Int)
def iv (z : Int) : Value := .int .i64 z
theorem Tryz.info3 : (Tryz.prog.info? 3).map (fun i => (i.zero, i.size, i.bytes)) = some (some (.int .i64 0), 1, 8) := by kernel_rfl
theorem own_below {w w' : World} {B : Nat} {e : TypeId} {v : Value} {n : Nat} {xs : List Value} (h : w.ownsRow B e 1 v n xs) (hb : Below w.heap.size w w') : w'.ownsRow B e 1 v n xs := by
 refine ⟨h.1, ?_⟩
 rcases h.2 with hn | ⟨g, cap, cur, rfl, hg, hh, r⟩
 ·exact .inl hn
 ·refine .inr ⟨g, cap, cur, rfl, hg, ?_, r⟩
  rw [hb.block g (by
   rcases Nat.lt_or_ge g w.heap.size with h1 | h1
   ·exact h1
   ·rw [Array.getElem?_eq_none h1] at hh; cases hh)]
  exact hh
structure KeptBut (g : Nat) (w w' : World) : Prop where
 os : w'.os = w.os
 tape : w'.tape = w.tape
 output : w'.output = w.output
 size : w.heap.size ≤ w'.heap.size
 block : ∀ k, k < w.heap.size → k ≠ g → w'.heap[k]? = w.heap[k]?
theorem KeptBut.refl (g : Nat) (w : World) : KeptBut g w w := ⟨rfl, rfl, rfl, Nat.le_refl _, fun _ _ _ => rfl⟩
theorem KeptBut.below {g : Nat} {w w1 w2 : World} (h : KeptBut g w w1) (hb : Below w1.heap.size w1 w2) : KeptBut g w w2 :=
 ⟨hb.os.trans h.os, hb.tape.trans h.tape, hb.output.trans h.output, Nat.le_trans h.size hb.size, fun k hk hg => (hb.block k (Nat.lt_of_lt_of_le hk h.size)).trans (h.block k hk hg)⟩
theorem KeptBut.setCell {g j : Nat} {w w1 : World} (h : KeptBut g w w1) (u : Value) : KeptBut g w (w1.setCell ⟨g, j, none⟩ u) := by
 have hb : Below g w1 (w1.setCell ⟨g, j, none⟩ u) := (Below.refl g w1).setCell (Nat.le_refl _) u
 exact ⟨hb.os.trans h.os, hb.tape.trans h.tape, hb.output.trans h.output, Nat.le_trans h.size hb.size, fun k hk hg => (Below.heap_setCell w1 ⟨g, j, none⟩ u k hg).trans (h.block k hk hg)⟩
theorem KeptBut.to_below {g B : Nat} {w w1 : World} (h : KeptBut g w w1) (hg : B ≤ g) (hB : B ≤ w.heap.size) : Below B w w1 :=
 ⟨h.os, h.tape, h.output, h.size, fun k hk => h.block k (by omega) (by omega)⟩
theorem KeptBut.own {g B : Nat} {w w1 : World} {e : TypeId} {v : Value} {n : Nat} {xs : List Value} (h : KeptBut g w w1) (ho : w.ownsRow B e 1 v n xs) (hne : v.ownBlock ≠ some g) : w1.ownsRow B e 1 v n xs := by
 refine ⟨ho.1, ?_⟩
 rcases ho.2 with hn | ⟨g', cap, cur, rfl, hg, hh, r⟩
 ·exact .inl hn
 ·refine .inr ⟨g', cap, cur, rfl, hg, ?_, r⟩
  rw [h.block g' (by
   rcases Nat.lt_or_ge g' w.heap.size with h1 | h1
   ·exact h1
   ·rw [Array.getElem?_eq_none h1] at hh; cases hh) (by intro e; subst e; exact hne rfl)]
  exact hh
end Go.Proofs.YtbepmeipjdpipaaGreat

namespace Go.Proofs.YtbepmeipjdpipaaGreat
open Go.RowKit
def RowIn (lo hi : Nat) (w : World) (a : Option Addr) (l : List Int) : Prop :=
 l = [] ∨ ∃ b o, a = some ⟨b, o, none⟩ ∧ lo ≤ b ∧ b < hi ∧ ∀ i, i < l.length → w.cell? ⟨b, o + i, none⟩ = some (.int .i64 (l.getD i 0))
theorem cell_below {w w' : World} {hi b o : Nat} {v : Value} (h : w.cell? ⟨b, o, none⟩ = some v) (hb : Below hi w w') (hi' : b < hi) : w'.cell? ⟨b, o, none⟩ = some v := by
 rw [← h]; unfold World.cell?; rw [hb.block b hi']
theorem RowIn.below {lo hi B : Nat} {w w' : World} {a : Option Addr} {l : List Int} (h : RowIn lo hi w a l) (hb : Below B w w') (hB : hi ≤ B) : RowIn lo hi w' a l := by
 rcases h with h | ⟨b, o, e, h1, h2, h3⟩
 ·exact .inl h
 ·exact .inr ⟨b, o, e, h1, h2, fun i hi => cell_below (h3 i hi) hb (by omega)⟩
theorem RowIn.wide {lo hi lo' hi' : Nat} {w : World} {a : Option Addr} {l : List Int} (h : RowIn lo hi w a l) (h1 : lo' ≤ lo) (h2 : hi ≤ hi') : RowIn lo' hi' w a l := by
 rcases h with h | ⟨b, o, e, h3, h4, h5⟩
 ·exact .inl h
 ·exact .inr ⟨b, o, e, by omega, by omega, h5⟩
def Drawn (w w' : World) : Prop := ∃ m, w' = w.drewN m
theorem Drawn.refl (w : World) : Drawn w w := ⟨0, rfl⟩
theorem Drawn.drewN {a w : World} (h : Drawn a w) (n : Nat) : Drawn a (w.drewN n) := by
 obtain ⟨m, rfl⟩ := h
 exact ⟨m + n, World.drewN_drewN _ _ _⟩
theorem Drawn.below {w w' : World} (h : Drawn w w') : Below w.heap.size w w' := by
 obtain ⟨m, rfl⟩ := h
 exact below_drewN (Below.refl _ _) _
theorem ext_getD {l l' : List Int} {n : Nat} (h1 : l.length = n) (h2 : l'.length = n) (h : ∀ j, j < n → l.getD j 0 = l'.getD j 0) : l = l' := by
 apply List.ext_getElem (by omega)
 intro i hi hi'
 have := h i (by omega)
 simpa [List.getD, hi, hi'] using this
set_option maxHeartbeats 1000000 in
set_option maxRecDepth 100000 in
theorem eqInts_any_q (lo hi lo' hi' : Nat) (a a' : Option Addr) (n n' cap cap' : Nat) (l l' : List Int) (r : Bool) (w : World) (ha : RowIn lo hi w a l) (hb : RowIn lo' hi' w a' l') (hn : l.length = n) (hn' : l'.length = n') (hm : n ≤ 1048576) (hr : r = decide (l = l')) :
  Calls Tryz.prog 13 #[.slice a n cap, .slice a' n' cap'] w fun e w' => e = .returned (.bool r) ∧ Drawn w w' := by
 by_cases hne : n = n'
 ·subst hne
  have HN : Hid (l.length = n) := hn
  have HN' : Hid (l'.length = n) := hn'
  have HR : Hid (r = decide (l = l')) := hr
  clear hn hn' hr
  by_cases h0 : n = 0
  ·subst h0
   have HT : Hid (r = true) := by
    have h1 := HN.out; have h2 := HN'.out
    show r = true
    rw [HR.out]; simp [List.length_eq_zero_iff.1 h1, List.length_eq_zero_iff.1 h2]
   clear ha hb
   go_enter Tryz.func13, Tryz.ntmps13
   go_wp2
   go_loop [5] (fun i => i = .int .i64 0) (fun _ => 0)
   case atStart => rfl
   case round =>
    subst hrel
    go_wp2
    go_ret
    exact ⟨by rw [HT.out]; rfl, Drawn.refl _⟩
  ·obtain ⟨b, o, rfl, _, _, hc⟩ : ∃ b o, a = some ⟨b, o, none⟩ ∧ lo ≤ b ∧ b < hi ∧ ∀ i, i < l.length → w.cell? ⟨b, o + i, none⟩ = some (.int .i64 (l.getD i 0)) := by
    rcases ha with rfl | h
    ·exact absurd HN.out (by simp; omega)
    ·exact h
   obtain ⟨b', o', rfl, _, _, hc'⟩ : ∃ b o, a' = some ⟨b, o, none⟩ ∧ lo' ≤ b ∧ b < hi' ∧ ∀ i, i < l'.length → w.cell? ⟨b, o + i, none⟩ = some (.int .i64 (l'.getD i 0)) := by
    rcases hb with rfl | h
    ·exact absurd HN'.out (by simp; omega)
    ·exact h
   have HC : Hid (∀ i, i < n → w.cell? ⟨b, o + i, none⟩ = some (.int .i64 (l.getD i 0))) := by have := HN.out; intro i hi; exact hc i (by omega)
   have HC' : Hid (∀ i, i < n → w.cell? ⟨b', o' + i, none⟩ = some (.int .i64 (l'.getD i 0))) := by have := HN'.out; intro i hi; exact hc' i (by omega)
   clear ha hb hc hc'
   go_enter Tryz.func13, Tryz.ntmps13
   go_wp2
   go_loopw [5] (fun i wr => ∃ k : Nat, i = .int .i64 k ∧ k ≤ n ∧ Hid (∀ j, j < k → l.getD j 0 = l'.getD j 0) ∧ ∃ q, wr = w.drewN q) (fun i _ => n - (intOf i).toNat)
   case atStart => exact ⟨0, rfl, by omega, fun j hj => absurd hj (by omega), 0, rfl⟩
   case round =>
    obtain ⟨k, rfl, hk, HE, q, rfl⟩ := hrel
    by_cases hlt : k < n
    ·have hca := HC.out k hlt
     have hcb := HC'.out k hlt
     obtain ⟨x, hx⟩ : ∃ x, x = l.getD k 0 := ⟨_, rfl⟩
     obtain ⟨y, hy⟩ : ∃ y, y = l'.getD k 0 := ⟨_, rfl⟩
     rw [← hx] at hca
     rw [← hy] at hcb
     have HX : Hid (x = l.getD k 0) := hx
     have HY : Hid (y = l'.getD k 0) := hy
     clear hx hy
     have hlt1 : (k : Int) < (n : Int) := by omega
     by_cases hxy : x = y
     ·subst hxy
      go_wp2_with fail
      go_quiet (fail)
      go_wp2
      go_roundw
      case rel =>
       refine ⟨k + 1, by go_num, by omega, ?_, _, rfl⟩
       intro j hj
       rcases Nat.lt_or_ge j k with h | h
       ·exact HE.out j h
       ·obtain rfl : j = k := by omega
        rw [← HX.out, ← HY.out]
      case measure => simp [intOf]; omega
     ·go_wp2_with fail
      go_quiet (fail)
      go_wp2
      go_ret
      refine ⟨?_, ((Drawn.refl _).drewN _).drewN _⟩
      have hf : r = false := by
       rw [HR.out]; simp only [decide_eq_false_iff_not]
       intro e
       exact hxy (by rw [HX.out, HY.out, e])
      rw [hf]; rfl
    ·go_wp2
     go_ret
     refine ⟨?_, (Drawn.refl _).drewN _⟩
     have ht : r = true := by
      rw [HR.out]; simp only [decide_eq_true_eq]
      exact ext_getD HN.out HN'.out (fun j hj => HE.out j (by omega))
     rw [ht]; rfl
 ·have hf : r = false := by
   rw [hr]; simp only [decide_eq_false_iff_not]
   intro e; subst e; omega
  subst hf
  clear ha hb hr hn hn'
  go_enter Tryz.func13, Tryz.ntmps13
  go_wp2
  go_ret
  exact ⟨rfl, Drawn.refl _⟩
theorem eqInts_any (lo hi lo' hi' : Nat) (a a' : Option Addr) (n n' cap cap' : Nat) (l l' : List Int) (r : Bool) (w : World) (ha : RowIn lo hi w a l) (hb : RowIn lo' hi' w a' l') (hn : l.length = n) (hn' : l'.length = n') (hm : n ≤ 1048576) (hr : r = decide (l = l')) :
  Calls Tryz.prog 13 #[.slice a n cap, .slice a' n' cap'] w fun e w' => e = .returned (.bool r) ∧ Below w.heap.size w w' :=
 (eqInts_any_q lo hi lo' hi' a a' n n' cap cap' l l' r w ha hb hn hn' hm hr).mono fun _ _ h => ⟨h.1, h.2.below⟩
end Go.Proofs.YtbepmeipjdpipaaGreat

namespace Go.Proofs.YtbepmeipjdpipaaGreat
open Go.RowKit
def cmpRow : List Int → List Int → Int
 | [], [] => 0
 | [], _ :: _ => -1
 | _ :: _, [] => 1
 | x :: xs, y :: ys => if x < y then -1 else if y < x then 1 else cmpRow xs ys
def rowLt (l m : List Int) : Bool := decide (cmpRow l m < 0)
set_option maxHeartbeats 400000 in
theorem isNaN_any (x : Int) (w : World) : Calls Tryz.prog 116 #[.int .i64 x] w fun e w' => e = .returned (.bool false) ∧ w = w' := by
 go_enter Tryz.func116, Tryz.ntmps116
 go_wp2
 go_ret
 exact ⟨rfl, rfl⟩
def cmpI (x y : Int) : Int := if x < y then -1 else if y < x then 1 else 0
set_option maxHeartbeats 400000 in
theorem compare_any (x y : Int) (w : World) : Calls Tryz.prog 108 #[.int .i64 x, .int .i64 y] w fun e w' => e = .returned (.int .i64 (cmpI x y)) ∧ w = w' := by
 by_cases h1 : x < y
 ·have hd : decide (x < y) = true := decide_eq_true h1
  have hr : cmpI x y = -1 := by unfold cmpI; rw [if_pos h1]
  rw [hr]
  clear hr
  go_enter Tryz.func108, Tryz.ntmps108
  go_wp2_with fail
  refine (isNaN_any x w).mono ?_
  rintro e w' ⟨rfl, rfl⟩
  go_wp2_with fail
  refine (isNaN_any y w).mono ?_
  rintro e w' ⟨rfl, rfl⟩
  go_wp2
  go_ret
  exact ⟨rfl, rfl⟩
 ·have hd : decide (x < y) = false := decide_eq_false h1
  by_cases h2 : y < x
  ·have hd2 : decide (y < x) = true := decide_eq_true h2
   have hr : cmpI x y = 1 := by unfold cmpI; rw [if_neg h1, if_pos h2]
   rw [hr]
   clear hr
   go_enter Tryz.func108, Tryz.ntmps108
   go_wp2_with fail
   refine (isNaN_any x w).mono ?_
   rintro e w' ⟨rfl, rfl⟩
   go_wp2_with fail
   refine (isNaN_any y w).mono ?_
   rintro e w' ⟨rfl, rfl⟩
   go_wp2
   go_ret
   exact ⟨rfl, rfl⟩
  ·have hd2 : decide (y < x) = false := decide_eq_false h2
   have hr : cmpI x y = 0 := by unfold cmpI; rw [if_neg h1, if_neg h2]
   rw [hr]
   clear hr
   go_enter Tryz.func108, Tryz.ntmps108
   go_wp2_with fail
   refine (isNaN_any x w).mono ?_
   rintro e w' ⟨rfl, rfl⟩
   go_wp2_with fail
   refine (isNaN_any y w).mono ?_
   rintro e w' ⟨rfl, rfl⟩
   go_wp2
   go_ret
   exact ⟨rfl, rfl⟩
end Go.Proofs.YtbepmeipjdpipaaGreat

namespace Go.Proofs.YtbepmeipjdpipaaGreat
open Go.RowKit
set_option maxHeartbeats 400000 in
theorem l01In_any (x lo hi : Int) (w : World) : Calls Tryz.prog 20 #[.int .i64 x, .int .i64 lo, .int .i64 hi] w fun e w' => e = .returned (.bool (decide (lo ≤ x) && decide (x ≤ hi))) ∧ w = w' := by
 by_cases h1 : lo ≤ x
 ·have hd1 : decide (lo ≤ x) = true := decide_eq_true h1
  by_cases h2 : x ≤ hi
  ·have hd : decide (x ≤ hi) = true := decide_eq_true h2
   rw [hd1, hd]
   go_enter Tryz.func20, Tryz.ntmps20
   go_wp2
   go_ret
   exact ⟨rfl, rfl⟩
  ·have hd : decide (x ≤ hi) = false := decide_eq_false h2
   rw [hd1, hd]
   go_enter Tryz.func20, Tryz.ntmps20
   go_wp2
   go_ret
   exact ⟨rfl, rfl⟩
 ·have hd1 : decide (lo ≤ x) = false := decide_eq_false h1
  rw [hd1]
  go_enter Tryz.func20, Tryz.ntmps20
  go_wp2
  go_ret
  exact ⟨by simp, rfl⟩
def okNums (l : List Int) : Bool := l.all fun x => decide (0 ≤ x) && decide (x ≤ 99)
def okRow (l : List Int) : Bool := okNums l && decide (l.length ≤ 4)
def okItem (l : List Int) (t : Int) : Bool := okRow l && (decide (1 ≤ t) && decide (t ≤ 1000000))
end Go.Proofs.YtbepmeipjdpipaaGreat

namespace Go.Proofs.YtbepmeipjdpipaaGreat
open Go.RowKit
def Blk (w : World) (b n : Nat) (f : Nat → Value) : Prop := ∃ cur e, w.heap[b]? = some (.cells cur e (0, 0)) ∧ ∀ i, i < n → cur[i]? = some (f i)
theorem Blk.lt {w : World} {b n : Nat} {f : Nat → Value} (h : Blk w b n f) : b < w.heap.size := by
 obtain ⟨cur, e, hb, _⟩ := h
 exact (Array.getElem?_eq_some_iff.1 hb).1
theorem Blk.cell {w : World} {b n i : Nat} {f : Nat → Value} (h : Blk w b n f) (hi : i < n) : w.cell? ⟨b, i, none⟩ = some (f i) := by
 obtain ⟨cur, e, hb, hc⟩ := h
 simp [World.cell?, hb, hc i hi]
theorem Blk.frozen {w : World} {b n : Nat} {f : Nat → Value} (h : Blk w b n f) (i : Nat) : w.frozen? ⟨b, i, none⟩ = false := by
 obtain ⟨cur, e, hb, hc⟩ := h
 simp [World.frozen?, hb]
theorem Blk.congr {w : World} {b n : Nat} {f g : Nat → Value} (h : Blk w b n f) (e : ∀ i, i < n → f i = g i) : Blk w b n g := by
 obtain ⟨cur, t, hb, hc⟩ := h
 exact ⟨cur, t, hb, fun i hi => by rw [hc i hi, e i hi]⟩
theorem Blk.of_block {w w' : World} {b n : Nat} {f : Nat → Value} (h : Blk w b n f) (e : w'.heap[b]? = w.heap[b]?) : Blk w' b n f := by
 obtain ⟨cur, t, hb, hc⟩ := h
 exact ⟨cur, t, by rw [e]; exact hb, hc⟩
theorem Blk.set {w : World} {b n : Nat} {f : Nat → Value} (h : Blk w b n f) (i : Nat) (hi : i < n) (v : Value) : Blk (w.setCell ⟨b, i, none⟩ v) b n (fun j => if j = i then v else f j) := by
 obtain ⟨c, t, hb, hc⟩ := h
 refine ⟨c.setIfInBounds i v, t, ?_, fun j hj => ?_⟩
 ·simp [World.setCell, Array.getElem?_modify, hb]
 ·rw [Array.getElem?_setIfInBounds]
  by_cases e : j = i
  ·subst e
   have := (Array.getElem?_eq_some_iff.1 (hc j hj)).1
   simp [this]
  ·rw [if_neg (fun h => e h.symm)]
   show c[j]? = some (if j = i then v else f j)
   rw [if_neg e]
   exact hc j hj
theorem blk_own {w : World} {B e s n cap g : Nat} {xs : List Value} (h : w.ownsRow B e s (.slice (some ⟨g, 0, none⟩) n cap) n xs) : Blk w g (n * s) (fun i => xs.getD i (.int .i64 0)) := by
 rcases h.2 with ⟨h1, _⟩ | ⟨g', cap', cur, h1, _, hb, _, _, hs, ht⟩
 ·cases h1
 ·simp only [Value.slice.injEq, Option.some.injEq, Addr.mk.injEq] at h1
  obtain ⟨⟨rfl, _⟩, _, rfl⟩ := h1
  refine ⟨cur, e, hb, fun i hi => ?_⟩
  have hl := h.1
  have hx : xs[i]? = some (xs.getD i (.int .i64 0)) := by simp [List.getD, List.getElem?_eq_getElem (show i < xs.length by omega)]
  rw [← hx, ← ht, List.getElem?_take_of_lt hi]
  simp
structure KeptP (p : Nat → Prop) (w w' : World) : Prop where
 os : w'.os = w.os
 tape : w'.tape = w.tape
 output : w'.output = w.output
 size : w.heap.size ≤ w'.heap.size
 block : ∀ k, k < w.heap.size → ¬ p k → w'.heap[k]? = w.heap[k]?
theorem KeptP.refl (p : Nat → Prop) (w : World) : KeptP p w w := ⟨rfl, rfl, rfl, Nat.le_refl _, fun _ _ _ => rfl⟩
theorem KeptP.trans {p : Nat → Prop} {a b c : World} (h : KeptP p a b) (k : KeptP p b c) : KeptP p a c :=
 ⟨k.os.trans h.os, k.tape.trans h.tape, k.output.trans h.output, Nat.le_trans h.size k.size, fun i hi hp => (k.block i (Nat.lt_of_lt_of_le hi h.size) hp).trans (h.block i hi hp)⟩
theorem KeptP.of_below {p : Nat → Prop} {B : Nat} {w w' : World} (h : Below B w w') (hp : ∀ k, k < w.heap.size → ¬ p k → k < B) : KeptP p w w' :=
 ⟨h.os, h.tape, h.output, h.size, fun k hk hn => h.block k (hp k hk hn)⟩
theorem KeptP.setCell {p : Nat → Prop} {g j : Nat} {w w1 : World} (h : KeptP p w w1) (hg : p g) (u : Value) : KeptP p w (w1.setCell ⟨g, j, none⟩ u) := by
 have hb : Below g w1 (w1.setCell ⟨g, j, none⟩ u) := (Below.refl g w1).setCell (Nat.le_refl _) u
 exact ⟨hb.os.trans h.os, hb.tape.trans h.tape, hb.output.trans h.output, Nat.le_trans h.size hb.size, fun k hk hn => (Below.heap_setCell w1 ⟨g, j, none⟩ u k (by intro e; subst e; exact hn hg)).trans (h.block k hk hn)⟩
theorem KeptP.mono {p p' : Nat → Prop} {w w' : World} (h : KeptP p w w') (hp : ∀ k, p k → p' k) : KeptP p' w w' :=
 ⟨h.os, h.tape, h.output, h.size, fun k hk hn => h.block k hk (fun h => hn (hp k h))⟩
theorem KeptP.to_below {p : Nat → Prop} {B : Nat} {w w' : World} (h : KeptP p w w') (hB : B ≤ w.heap.size) (hp : ∀ k, p k → B ≤ k) : Below B w w' :=
 ⟨h.os, h.tape, h.output, h.size, fun k hk => h.block k (by omega) (fun h => by have := hp k h; omega)⟩
theorem KeptP.cell {p : Nat → Prop} {w w' : World} (h : KeptP p w w') {b o : Nat} {v : Value} (hc : w.cell? ⟨b, o, none⟩ = some v) (hb : b < w.heap.size) (hn : ¬ p b) : w'.cell? ⟨b, o, none⟩ = some v := by
 rw [← hc]; unfold World.cell?; rw [h.block b hb hn]
theorem KeptP.blk {p : Nat → Prop} {w w' : World} {b n : Nat} {f : Nat → Value} (h : KeptP p w w') (hc : Blk w b n f) (hn : ¬ p b) : Blk w' b n f := hc.of_block (h.block b hc.lt hn)
def RowOwn (lo hi : Nat) (w : World) (a : Option Addr) (l : List Int) : Prop :=
 l = [] ∨ ∃ b, a = some ⟨b, 0, none⟩ ∧ lo ≤ b ∧ b < hi ∧ Blk w b l.length (fun i => .int .i64 (l.getD i 0))
theorem RowOwn.toIn {lo hi : Nat} {w : World} {a : Option Addr} {l : List Int} (h : RowOwn lo hi w a l) : RowIn lo hi w a l := by
 rcases h with h | ⟨b, e, h1, h2, h3⟩
 ·exact .inl h
 ·exact .inr ⟨b, 0, e, h1, h2, fun i hi => by rw [Nat.zero_add]; exact h3.cell hi⟩
theorem RowOwn.below {lo hi B : Nat} {w w' : World} {a : Option Addr} {l : List Int} (h : RowOwn lo hi w a l) (hb : Below B w w') (hB : hi ≤ B) : RowOwn lo hi w' a l := by
 rcases h with h | ⟨b, e, h1, h2, h3⟩
 ·exact .inl h
 ·exact .inr ⟨b, e, h1, h2, h3.of_block (hb.block b (by omega))⟩
theorem RowOwn.wide {lo hi lo' hi' : Nat} {w : World} {a : Option Addr} {l : List Int} (h : RowOwn lo hi w a l) (h1 : lo' ≤ lo) (h2 : hi ≤ hi') : RowOwn lo' hi' w a l := by
 rcases h with h | ⟨b, e, h3, h4, h5⟩
 ·exact .inl h
 ·exact .inr ⟨b, e, by omega, by omega, h5⟩
theorem RowIn.kept {lo hi : Nat} {p : Nat → Prop} {w w' : World} {a : Option Addr} {l : List Int} (h : RowIn lo hi w a l) (hk : KeptP p w w') (hh : hi ≤ w.heap.size) (hp : ∀ k, lo ≤ k → k < hi → ¬ p k) : RowIn lo hi w' a l := by
 rcases h with h | ⟨b, o, e, h1, h2, h3⟩
 ·exact .inl h
 ·exact .inr ⟨b, o, e, h1, h2, fun i hi => hk.cell (h3 i hi) (by omega) (hp b h1 h2)⟩
def marks (K n : Nat) : List Int := (List.range n).map fun i => ((K + i : Nat) : Int)
theorem marks_len (K n : Nat) : (marks K n).length = n := by simp [marks]
theorem marks_get {K n i : Nat} (h : i < n) : (marks K n).getD i 0 = ((K + i : Nat) : Int) := by simp [marks, List.getD, h]
set_option maxHeartbeats 1000000 in
set_option maxRecDepth 100000 in
theorem markInts_any (p : Nat → Prop) (lo hi : Nat) (a : Option Addr) (n cap K : Nat) (l : List Int) (w : World) (ha : RowOwn lo hi w a l) (hn : l.length = n) (hm : n ≤ 1048576) (hK : K ≤ 1099511627776) (hp : ∀ b, a = some ⟨b, 0, none⟩ → l ≠ [] → p b) :
  Calls Tryz.prog 15 #[.slice a n cap, .int .i64 (K : Int)] w fun e w' => e = .returned (.int .i64 ((K + n : Nat) : Int)) ∧ RowOwn lo hi w' a (marks K n) ∧ KeptP p w w' ∧ w'.heap.size = w.heap.size := by
 have HN : Hid (l.length = n) := hn
 by_cases h0 : n = 0
 ·subst h0
  clear ha hn hp
  go_enter Tryz.func15, Tryz.ntmps15
  go_wp2
  go_loop [5, 1] (fun i k => i = .int .i64 0 ∧ k = .int .i64 (K : Int)) (fun _ _ => 0)
  case atStart => exact ⟨rfl, rfl⟩
  case round =>
   obtain ⟨rfl, rfl⟩ := hrel
   go_wp2
   go_ret
   exact ⟨rfl, .inl (by simp [marks]), KeptP.refl _ _, rfl⟩
 ·obtain ⟨b, rfl, h1, h2, hb⟩ : ∃ b, a = some ⟨b, 0, none⟩ ∧ lo ≤ b ∧ b < hi ∧ Blk w b l.length (fun i => .int .i64 (l.getD i 0)) := by
   rcases ha with rfl | h
   ·exact absurd HN.out (by simp; omega)
   ·exact h
  have HP : Hid (p b) := hp b rfl (by intro e; subst e; exact h0 (by simpa using hn.symm))
  have HX : Hid (lo ≤ b ∧ b < hi) := ⟨h1, h2⟩
  have HB0 : Hid (Blk w b n (fun i => .int .i64 (l.getD i 0))) := by rw [hn] at hb; exact hb
  clear ha hb hn hp h1 h2
  go_enter Tryz.func15, Tryz.ntmps15
  go_wp2
  go_loopw [5, 1] (fun i s wr => ∃ k : Nat, i = .int .i64 k ∧ s = .int .i64 ((K + k : Nat) : Int) ∧ k ≤ n ∧ Hid (Blk wr b n (fun j => if j < k then .int .i64 ((K + j : Nat) : Int) else .int .i64 (l.getD j 0))) ∧ Hid (KeptP p w wr) ∧ wr.heap.size = w.heap.size) (fun i _ _ => n - (intOf i).toNat)
  case atStart => exact ⟨0, rfl, rfl, by omega, HB0.out.congr (fun i _ => by simp), KeptP.refl _ _, rfl⟩
  case round =>
   obtain ⟨k, rfl, rfl, hk, HB, HL, hsz⟩ := hrel
   by_cases hlt : k < n
   ·have hlt1 : (k : Int) < (n : Int) := by omega
    have hcb := HB.out.cell hlt
    have hfb := HB.out.frozen k
    go_wp2
    go_roundw
    case rel =>
     refine ⟨k + 1, by go_num, by go_num, by omega, ?_, HL.out.setCell HP.out _, by simpa using hsz⟩
     refine (HB.out.set k hlt _).congr fun j hj => ?_
     by_cases e : j = k
     ·subst e; simp
     ·by_cases e2 : j < k
      ·simp [e, e2, show j < k + 1 by omega]
      ·simp [e, e2, show ¬ j < k + 1 by omega]
    case measure => simp [intOf]; omega
   ·obtain rfl : k = n := by omega
    go_wp2
    go_ret
    refine ⟨rfl, .inr ⟨b, rfl, HX.out.1, HX.out.2, ?_⟩, HL.out, hsz⟩
    rw [marks_len]
    exact HB.out.congr fun j hj => by rw [marks_get hj, if_pos hj]
end Go.Proofs.YtbepmeipjdpipaaGreat

namespace Go.Proofs.YtbepmeipjdpipaaGreat
open Go.ChangeShapes Go.WideShapes Go.ChangeAt Go.RowKit Go.Deep
abbrev It := List Int × Int
def ItemAt (lo hi : Nat) (w : World) (b o : Nat) (x : It) : Prop :=
 ∃ ra rc, w.cell? ⟨b, o, none⟩ = some (.slice ra x.1.length rc) ∧ RowIn lo hi w ra x.1 ∧ w.cell? ⟨b, o + 1, none⟩ = some (.int .i64 x.2)
def BagIn (lo hi : Nat) (w : World) (a : Option Addr) (l : List It) : Prop :=
 l = [] ∨ ∃ b o, a = some ⟨b, o, none⟩ ∧ lo ≤ b ∧ b < hi ∧ ∀ i, i < l.length → ItemAt lo hi w b (o + i * 2) (l.getD i ([], 0))
theorem ItemAt.below {lo hi B : Nat} {w w' : World} {b o : Nat} {x : It} (h : ItemAt lo hi w b o x) (hb : Below B w w') (hB : hi ≤ B) (hl : b < hi) : ItemAt lo hi w' b o x := by
 obtain ⟨ra, rc, h1, h2, h3⟩ := h
 exact ⟨ra, rc, cell_below h1 hb (by omega), h2.below hb hB, cell_below h3 hb (by omega)⟩
theorem BagIn.below {lo hi B : Nat} {w w' : World} {a : Option Addr} {l : List It} (h : BagIn lo hi w a l) (hb : Below B w w') (hB : hi ≤ B) : BagIn lo hi w' a l := by
 rcases h with h | ⟨b, o, e, h1, h2, h3⟩
 ·exact .inl h
 ·exact .inr ⟨b, o, e, h1, h2, fun i hi => (h3 i hi).below hb hB h2⟩
theorem ItemAt.wide {lo hi lo' hi' : Nat} {w : World} {b o : Nat} {x : It} (h : ItemAt lo hi w b o x) (h1 : lo' ≤ lo) (h2 : hi ≤ hi') : ItemAt lo' hi' w b o x := by
 obtain ⟨ra, rc, h3, h4, h5⟩ := h
 exact ⟨ra, rc, h3, h4.wide h1 h2, h5⟩
theorem BagIn.wide {lo hi lo' hi' : Nat} {w : World} {a : Option Addr} {l : List It} (h : BagIn lo hi w a l) (h1 : lo' ≤ lo) (h2 : hi ≤ hi') : BagIn lo' hi' w a l := by
 rcases h with h | ⟨b, o, e, h3, h4, h5⟩
 ·exact .inl h
 ·exact .inr ⟨b, o, e, by omega, by omega, fun i hi => (h5 i hi).wide h1 h2⟩
theorem ItemAt.kept {lo hi : Nat} {p : Nat → Prop} {w w' : World} {b o : Nat} {x : It} (h : ItemAt lo hi w b o x) (hk : KeptP p w w') (hh : hi ≤ w.heap.size) (hp : ∀ k, lo ≤ k → k < hi → ¬ p k) (h1 : lo ≤ b) (h2 : b < hi) : ItemAt lo hi w' b o x := by
 obtain ⟨ra, rc, h3, h4, h5⟩ := h
 exact ⟨ra, rc, hk.cell h3 (by omega) (hp b h1 h2), h4.kept hk hh hp, hk.cell h5 (by omega) (hp b h1 h2)⟩
theorem BagIn.kept {lo hi : Nat} {p : Nat → Prop} {w w' : World} {a : Option Addr} {l : List It} (h : BagIn lo hi w a l) (hk : KeptP p w w') (hh : hi ≤ w.heap.size) (hp : ∀ k, lo ≤ k → k < hi → ¬ p k) : BagIn lo hi w' a l := by
 rcases h with h | ⟨b, o, e, h1, h2, h3⟩
 ·exact .inl h
 ·exact .inr ⟨b, o, e, h1, h2, fun i hi => (h3 i hi).kept hk hh hp h1 h2⟩
theorem BagIn.item {lo hi : Nat} {w : World} {a : Option Addr} {l : List It} (h : BagIn lo hi w a l) {k : Nat} (hk : k < l.length) : ∃ b o, a = some ⟨b, o, none⟩ ∧ lo ≤ b ∧ b < hi ∧ ItemAt lo hi w b (o + k * 2) (l.getD k ([], 0)) := by
 rcases h with rfl | ⟨b, o, e, h1, h2, h3⟩
 ·simp at hk
 ·exact ⟨b, o, e, h1, h2, h3 k hk⟩
theorem spot_none {w : World} {b off : Nat} {spot : Option Nat} {v : Value} (h : w.cell? ((⟨b, off, spot⟩ : Addr).add 0) = some v) : spot = none := by
 simpa [Addr.add] using World.cell?_spot h
theorem add_none (b off k : Nat) : (⟨b, off, none⟩ : Addr).add k = ⟨b, off + k, none⟩ := by unfold Addr.add; split <;> simp_all
theorem lt_of_cell {w : World} {b o : Nat} {v : Value} (h : w.cell? ⟨b, o, none⟩ = some v) : b < w.heap.size := by
 unfold World.cell? at h
 rcases Nat.lt_or_ge b w.heap.size with h1 | h1
 ·exact h1
 ·simp [Array.getElem?_eq_none h1] at h
theorem row_trod {H : Type} {enc : TypeId × Value → H} {W : World} {fuel : Nat} {ao : Option Addr} {n cap : Nat} {x : DataW H × List MemPlace}
  (hf : DataW.trod enc Tryz.prog W 0 (fun _ => true) true fuel 36 [.slice ao n cap] = some x) : ∃ l : List Int, l.length = n ∧ RowIn 0 W.heap.size W ao l ∧ n ≤ maxLen := by
 rcases open_ints Tryz.underlying36 Tryz.underlying3 (by kernel_rfl) hf with ⟨hcs, _⟩ | ⟨x, l, c, zs, hcs, _, hl, hm, hz, _, hcell, hwz⟩
 ·simp at hcs
  obtain ⟨rfl, rfl, rfl⟩ := hcs
  exact ⟨[], rfl, .inl rfl, Nat.zero_le _⟩
 ·simp at hcs
  obtain ⟨rfl, rfl, rfl⟩ := hcs
  have hzl : zs.length = cap := by simpa using hz
  refine ⟨zs.take n, by simp; omega, ?_, by omega⟩
  by_cases h0 : n = 0
  ·exact .inl (by subst h0; simp)
  ·obtain ⟨b, off, spot⟩ := x
   have c0 := hcell 0 (by omega)
   obtain rfl := spot_none c0
   rw [add_none] at c0
   refine .inr ⟨b, off, rfl, Nat.zero_le _, lt_of_cell c0, fun i hi => ?_⟩
   have hi' : i < n := by simp at hi; omega
   have ck := hcell i (by omega)
   rw [add_none] at ck
   rw [ck]
   simp [List.getD, List.getElem?_take_of_lt hi']
theorem row_in {H : Type} {enc : TypeId × Value → H} {W : World} {ao : Option Addr} {n cap : Nat} {d : DataW H} {ps : List MemPlace}
  (h : DataW.Trod enc Tryz.prog W 0 (fun _ => true) true 36 (.slice ao n cap) d ps) : ∃ l : List Int, l.length = n ∧ RowIn 0 W.heap.size W ao l := by
 obtain ⟨fuel, hf⟩ := h
 obtain ⟨l, h1, h2, _⟩ := row_trod hf
 exact ⟨l, h1, h2⟩
end Go.Proofs.YtbepmeipjdpipaaGreat

namespace Go.Proofs.YtbepmeipjdpipaaGreat
open Go.RowKit
theorem below2 (w : World) (o1 o2 : Obj) : Below w.heap.size w ((w.alloc o1).alloc o2) := ((Below.refl _ _).alloc (Nat.le_refl _) _).alloc (by simp) _
theorem blk_new (w : World) (cs : Array Value) (T : TypeId) (f : Nat → Value) (h : ∀ i, i < cs.size → cs[i]? = some (f i)) : Blk (w.alloc (.cells cs T)) w.heap.size cs.size f := by
 refine ⟨cs, T, ?_, h⟩
 show (w.heap.push _)[w.heap.size]? = _
 simp
theorem blk_two (w : World) (b : Nat) (hb : b = w.heap.size) (x y : Value) (T : TypeId) : Blk (w.alloc (.cells #[x, y] T)) b 2 (fun i => if i = 0 then x else y) :=
 hb ▸ blk_new w #[x, y] T _ (fun i hi => by
  have hi' : i < 2 := hi
  rcases i with _ | _ | i
  ·rfl
  ·rfl
  ·omega)
theorem Blk.alloc {w : World} {b n : Nat} {f : Nat → Value} (h : Blk w b n f) (o : Obj) : Blk (w.alloc o) b n f := h.of_block (Below.heap_alloc w o b h.lt)
theorem below3 (w : World) (o1 o2 o3 : Obj) : Below w.heap.size w (((w.alloc o1).alloc o2).alloc o3) := (below2 w o1 o2).alloc (by simp; omega) _
theorem RowOwn.setCell {lo hi b j : Nat} {w : World} {a : Option Addr} {l : List Int} (h : RowOwn lo hi w a l) (hb : b < lo) (v : Value) : RowOwn lo hi (w.setCell ⟨b, j, none⟩ v) a l := by
 rcases h with h | ⟨g, e, h1, h2, h3⟩
 ·exact .inl h
 ·exact .inr ⟨g, e, h1, h2, h3.of_block (Below.heap_setCell w ⟨b, j, none⟩ v g (by simp; omega))⟩
end Go.Proofs.YtbepmeipjdpipaaGreat

namespace Go.Proofs.YtbepmeipjdpipaaGreat
open Go.RowKit
abbrev at' (l : List It) (i : Nat) : It := l.getD i ([], 0)
def rowsLen (l : List It) : Nat → Nat
 | 0 => 0
 | k + 1 => rowsLen l k + (at' l k).1.length
end Go.Proofs.YtbepmeipjdpipaaGreat

namespace Go.Proofs.YtbepmeipjdpipaaGreat
open Go.RowKit
def PartOwn (lo hi : Nat) (w : World) (b : Nat) (l : List It) (n k : Nat) : Prop :=
 ∃ (f : Nat → Value) (R : Nat → Option Addr) (C : Nat → Nat), Blk w b (n * 2) f ∧ ∀ i, i < k → f (i * 2) = .slice (R i) (at' l i).1.length (C i) ∧ f (i * 2 + 1) = .int .i64 (at' l i).2 ∧ RowOwn lo hi w (R i) (at' l i).1 ∧
  ((at' l i).1 ≠ [] → (∀ c, R i = some ⟨c, 0, none⟩ → c ≠ b) ∧ ∀ j, j < i → (at' l j).1 ≠ [] → R j ≠ R i)
def BagOwn (lo hi : Nat) (w : World) (a : Option Addr) (l : List It) : Prop :=
 l = [] ∨ ∃ b, a = some ⟨b, 0, none⟩ ∧ lo ≤ b ∧ b < hi ∧ PartOwn lo hi w b l l.length l.length
theorem BagOwn.toIn {lo hi : Nat} {w : World} {a : Option Addr} {l : List It} (h : BagOwn lo hi w a l) : BagIn lo hi w a l := by
 rcases h with h | ⟨b, e, h1, h2, f, R, C, hB, hp⟩
 ·exact .inl h
 ·refine .inr ⟨b, 0, e, h1, h2, fun i hi => ?_⟩
  obtain ⟨e1, e2, e3, _⟩ := hp i hi
  refine ⟨R i, C i, ?_, e3.toIn, ?_⟩
  ·rw [Nat.zero_add, hB.cell (by omega), e1]
  ·rw [Nat.zero_add, hB.cell (by omega), e2]
theorem PartOwn.below {lo hi B b : Nat} {w w' : World} {l : List It} {n k : Nat} (h : PartOwn lo hi w b l n k) (hb : Below B w w') (hB : hi ≤ B) (hl : b < B) : PartOwn lo hi w' b l n k := by
 obtain ⟨f, R, C, h1, h2⟩ := h
 refine ⟨f, R, C, h1.of_block (hb.block b hl), fun i hi => ?_⟩
 obtain ⟨e1, e2, e3, e4⟩ := h2 i hi
 exact ⟨e1, e2, e3.below hb hB, e4⟩
theorem BagOwn.below {lo hi B : Nat} {w w' : World} {a : Option Addr} {l : List It} (h : BagOwn lo hi w a l) (hb : Below B w w') (hB : hi ≤ B) : BagOwn lo hi w' a l := by
 rcases h with h | ⟨b, e, h1, h2, h3⟩
 ·exact .inl h
 ·exact .inr ⟨b, e, h1, h2, h3.below hb hB (by omega)⟩
theorem PartOwn.wide {lo hi lo' hi' b : Nat} {w : World} {l : List It} {n k : Nat} (h : PartOwn lo hi w b l n k) (h1 : lo' ≤ lo) (h2 : hi ≤ hi') : PartOwn lo' hi' w b l n k := by
 obtain ⟨f, R, C, h3, h4⟩ := h
 refine ⟨f, R, C, h3, fun i hi => ?_⟩
 obtain ⟨e1, e2, e3, e4⟩ := h4 i hi
 exact ⟨e1, e2, e3.wide h1 h2, e4⟩
theorem BagOwn.wide {lo hi lo' hi' : Nat} {w : World} {a : Option Addr} {l : List It} (h : BagOwn lo hi w a l) (h1 : lo' ≤ lo) (h2 : hi ≤ hi') : BagOwn lo' hi' w a l := by
 rcases h with h | ⟨b, e, h3, h4, h5⟩
 ·exact .inl h
 ·exact .inr ⟨b, e, by omega, by omega, h5.wide h1 h2⟩
theorem PartOwn.step {lo hi hi' b g cap : Nat} {w : World} {l : List It} {n k : Nat} (h : PartOwn lo hi w b l n k) (hk : k < n) (hb : b < hi) (hr : RowOwn hi hi' w (some ⟨g, 0, none⟩) (at' l k).1) (hlo : lo ≤ hi) (hhi : hi ≤ hi') :
  PartOwn lo hi' ((w.setCell ⟨b, k * 2, none⟩ (.slice (some ⟨g, 0, none⟩) (at' l k).1.length cap)).setCell ⟨b, k * 2 + 1, none⟩ (.int .i64 (at' l k).2)) b l n (k + 1) := by
 obtain ⟨f, R, C, h1, h2⟩ := h
 have hgb : (at' l k).1 ≠ [] → hi ≤ g := by
  intro hne
  rcases hr with h | ⟨c, e, h3, _, _⟩
  ·exact absurd h hne
  ·simp at e; omega
 have keep : ∀ {x y : Nat} {a : Option Addr} {r : List Int}, RowOwn x y w a r → (r ≠ [] → a ≠ some ⟨b, 0, none⟩) → RowOwn x y ((w.setCell ⟨b, k * 2, none⟩ (.slice (some ⟨g, 0, none⟩) (at' l k).1.length cap)).setCell ⟨b, k * 2 + 1, none⟩ (.int .i64 (at' l k).2)) a r := by
  intro x y a r hx hne
  by_cases h0 : r = []
  ·exact .inl h0
  ·rcases hx with h | ⟨c, e, h3, h4, h5⟩
   ·exact absurd h h0
   ·have hcb : c ≠ b := by intro e2; subst e2; exact hne h0 e
    refine .inr ⟨c, e, h3, h4, (h5.of_block (Below.heap_setCell w _ _ c (by simpa using hcb))).of_block (Below.heap_setCell _ _ _ c (by simpa using hcb))⟩
 refine ⟨_, fun i => if i = k then some ⟨g, 0, none⟩ else R i, fun i => if i = k then cap else C i, (h1.set (k * 2) (by omega) _).set (k * 2 + 1) (by omega) _, fun i hi2 => ?_⟩
 by_cases e : i = k
 ·subst e
  refine ⟨by simp, by simp, ?_, ?_⟩
  ·simp only [if_true]
   exact keep (hr.wide hlo (Nat.le_refl _)) (fun hne e => by have := hgb hne; simp at e <;> omega)
  ·intro hne
   have hge := hgb hne
   refine ⟨fun c hc => by simp at hc; omega, fun j hj hnj => ?_⟩
   have : ¬ j = i := by omega
   simp only [this, if_false, if_true]
   intro e3
   obtain ⟨_, _, e4, _⟩ := h2 j (by omega)
   rcases e4 with h | ⟨c, ec, _, hc, _⟩
   ·exact hnj h
   ·rw [e3] at ec; simp at ec <;> omega
 ·obtain ⟨e1, e2, e3, e4⟩ := h2 i (by omega)
  have n1 : ¬ i * 2 = k * 2 + 1 := by omega
  have n2 : ¬ i * 2 = k * 2 := by omega
  have n3 : ¬ i * 2 + 1 = k * 2 + 1 := by omega
  have n4 : ¬ i * 2 + 1 = k * 2 := by omega
  refine ⟨by simp only [n1, n2, if_false, e]; exact e1, by simp only [n3, n4, if_false]; exact e2, ?_, ?_⟩
  ·simp only [e, if_false]
   exact (keep e3 (fun hne he => (e4 hne).1 b he rfl)).wide (Nat.le_refl _) hhi
  ·intro hne
   simp only [e, if_false]
   refine ⟨(e4 hne).1, fun j hj hnj => ?_⟩
   have : ¬ j = k := by omega
   simp only [this, if_false]
   exact (e4 hne).2 j hj hnj
theorem PartOwn.of_blocks {lo hi b : Nat} {w w' : World} {l : List It} {n k : Nat} (h : PartOwn lo hi w b l n k) (h1 : w'.heap[b]? = w.heap[b]?) (h2 : ∀ c, lo ≤ c → c < hi → w'.heap[c]? = w.heap[c]?) : PartOwn lo hi w' b l n k := by
 obtain ⟨f, R, C, h3, h4⟩ := h
 refine ⟨f, R, C, h3.of_block h1, fun i hi => ?_⟩
 obtain ⟨e1, e2, e3, e4⟩ := h4 i hi
 refine ⟨e1, e2, ?_, e4⟩
 rcases e3 with h | ⟨c, ec, h5, h6, h7⟩
 ·exact .inl h
 ·exact .inr ⟨c, ec, h5, h6, h7.of_block (h2 c h5 h6)⟩
theorem BagOwn.setCell {lo hi b j : Nat} {w : World} {a : Option Addr} {l : List It} (h : BagOwn lo hi w a l) (hb : b < lo) (v : Value) : BagOwn lo hi (w.setCell ⟨b, j, none⟩ v) a l := by
 rcases h with h | ⟨g, e, h1, h2, h3⟩
 ·exact .inl h
 ·exact .inr ⟨g, e, h1, h2, h3.of_blocks (Below.heap_setCell w ⟨b, j, none⟩ v g (by simp; omega)) (fun c h4 _ => Below.heap_setCell w ⟨b, j, none⟩ v c (by simp; omega))⟩
theorem blk_one (w : World) (b : Nat) (hb : b = w.heap.size) (x : Value) (T : TypeId) : Blk (w.alloc (.cells #[x] T)) b 1 (fun _ => x) :=
 hb ▸ blk_new w #[x] T _ (fun i hi => by
  have hi' : i < 1 := hi
  obtain rfl : i = 0 := by omega
  rfl)
end Go.Proofs.YtbepmeipjdpipaaGreat

namespace Go.Proofs.YtbepmeipjdpipaaGreat
open Go.RowKit
def okAt (l : List It) (i : Nat) : Bool := okItem (at' l i).1 (at' l i).2 && (decide (i = 0) || (rowLt (at' l (i - 1)).1 (at' l i).1 && decide ((at' l (i - 1)).1.length = (at' l i).1.length)))
def okTo (l : List It) : Nat → Bool
 | 0 => true
 | k + 1 => okTo l k && okAt l k
def okBag (l : List It) : Bool := decide (l.length ≤ 300) && okTo l l.length
theorem below1 (w : World) (o1 : Obj) : Below w.heap.size w (w.alloc o1) := (Below.refl _ _).alloc (Nat.le_refl _) _
end Go.Proofs.YtbepmeipjdpipaaGreat

namespace Go.Proofs.YtbepmeipjdpipaaGreat
open Go.RowKit
abbrev Ed := Int × Int × Int
abbrev ev (x : Ed) : Value := .agg #[.int .i64 x.1, .int .u8 x.2.1, .int .i64 x.2.2]
def orI (a b : Int) : Int := if a = 0 then b else a
def cmpE (x y : Ed) : Int := orI (cmpI x.1 y.1) (orI (cmpI x.2.1 y.2.1) (cmpI x.2.2 y.2.2))
def ltE (x y : Ed) : Bool := decide (cmpE x y < 0)
set_option maxHeartbeats 400000 in
theorem isNaN8_any (x : Int) (w : World) : Calls Tryz.prog 117 #[.int .u8 x] w fun e w' => e = .returned (.bool false) ∧ w = w' := by
 go_enter Tryz.func117, Tryz.ntmps117
 go_wp2
 go_ret
 exact ⟨rfl, rfl⟩
set_option maxHeartbeats 400000 in
theorem compare8_any (x y : Int) (w : World) : Calls Tryz.prog 109 #[.int .u8 x, .int .u8 y] w fun e w' => e = .returned (.int .i64 (cmpI x y)) ∧ w = w' := by
 by_cases h1 : x < y
 ·have hd : decide (x < y) = true := decide_eq_true h1
  have hr : cmpI x y = -1 := by unfold cmpI; rw [if_pos h1]
  rw [hr]
  clear hr
  go_enter Tryz.func109, Tryz.ntmps109
  go_wp2_with fail
  refine (isNaN8_any x w).mono ?_
  rintro e w' ⟨rfl, rfl⟩
  go_wp2_with fail
  refine (isNaN8_any y w).mono ?_
  rintro e w' ⟨rfl, rfl⟩
  go_wp2
  go_ret
  exact ⟨rfl, rfl⟩
 ·have hd : decide (x < y) = false := decide_eq_false h1
  by_cases h2 : y < x
  ·have hd2 : decide (y < x) = true := decide_eq_true h2
   have hr : cmpI x y = 1 := by unfold cmpI; rw [if_neg h1, if_pos h2]
   rw [hr]
   clear hr
   go_enter Tryz.func109, Tryz.ntmps109
   go_wp2_with fail
   refine (isNaN8_any x w).mono ?_
   rintro e w' ⟨rfl, rfl⟩
   go_wp2_with fail
   refine (isNaN8_any y w).mono ?_
   rintro e w' ⟨rfl, rfl⟩
   go_wp2
   go_ret
   exact ⟨rfl, rfl⟩
  ·have hd2 : decide (y < x) = false := decide_eq_false h2
   have hr : cmpI x y = 0 := by unfold cmpI; rw [if_neg h1, if_neg h2]
   rw [hr]
   clear hr
   go_enter Tryz.func109, Tryz.ntmps109
   go_wp2_with fail
   refine (isNaN8_any x w).mono ?_
   rintro e w' ⟨rfl, rfl⟩
   go_wp2_with fail
   refine (isNaN8_any y w).mono ?_
   rintro e w' ⟨rfl, rfl⟩
   go_wp2
   go_ret
   exact ⟨rfl, rfl⟩
theorem orI_z {a b : Int} (h : a = 0) : orI a b = b := by unfold orI; rw [if_pos h]
theorem orI_n {a b : Int} (h : ¬ a = 0) : orI a b = a := by unfold orI; rw [if_neg h]
def firstN : List Int → Int
 | [] => 0
 | a :: l => orI a (firstN l)
theorem firstN_three (x y z : Int) : firstN [x, y, z] = orI x (orI y z) := by
 simp only [firstN, orI]; by_cases h : z = 0 <;> simp [h]
set_option maxHeartbeats 1000000 in
set_option maxRecDepth 100000 in
theorem cmpOr_any (b n cap : Nat) (l : List Int) (w : World) (hn : l.length = n) (hm : n ≤ 1048576) (hc : ∀ i, i < n → w.cell? ⟨b, i, none⟩ = some (.int .i64 (l.getD i 0))) :
  Calls Tryz.prog 107 #[.slice (some ⟨b, 0, none⟩) n cap] w fun e w' => (∃ r : Int, e = .returned (.int .i64 r) ∧ Hid (r = firstN l)) ∧ w = w' := by
 have HN : Hid (l.length = n) := hn
 have HC : Hid (∀ i, i < n → w.cell? ⟨b, i, none⟩ = some (.int .i64 (l.getD i 0))) := hc
 clear hn hc
 go_enter Tryz.func107, Tryz.ntmps107
 go_wp2
 go_loop [8] (fun i => ∃ k : Nat, i = .int .i64 k ∧ k ≤ n ∧ Hid (firstN l = firstN (l.drop k))) (fun i => n - (intOf i).toNat)
 case atStart => exact ⟨0, rfl, by omega, rfl⟩
 case round =>
  obtain ⟨k, rfl, hk, HE⟩ := hrel
  by_cases hlt : k < n
  ·have hlt1 : (k : Int) < (n : Int) := by omega
   obtain ⟨x, HX⟩ : ∃ x, Hid (x = l.getD k 0) := ⟨_, rfl⟩
   have hca := HC.out k hlt
   rw [← HX.out] at hca
   have hz : (0 + k) = k := Nat.zero_add k
   have HS : Hid (firstN l = orI x (firstN (l.drop (k + 1)))) := by
    show _ = _
    have hkl : k < l.length := by rw [HN.out]; exact hlt
    rw [HE.out, List.drop_eq_getElem_cons hkl, firstN, HX.out]
    simp [List.getD, hkl]
   by_cases hx : x = 0
   ·subst hx
    go_wp2
    go_roundw
    case rel => exact ⟨k + 1, by go_num, by omega, by show _ = _; rw [HS.out]; exact orI_z rfl⟩
    case measure => simp [intOf]; omega
   ·go_wp2
    go_ret
    exact ⟨⟨x, rfl, by show _ = _; rw [HS.out, orI_n hx]⟩, rfl⟩
  ·go_wp2
   go_ret
   refine ⟨⟨0, rfl, ?_⟩, rfl⟩
   show _ = _
   rw [HE.out, List.drop_of_length_le (by rw [HN.out]; omega)]; rfl
theorem box_cells (w : World) (x y z : Value) (T : TypeId) (b : Nat) (hb : b = w.heap.size) : (w.alloc (.cells #[x, y, z] T)).cell? ⟨b, 0, none⟩ = some x ∧ (w.alloc (.cells #[x, y, z] T)).cell? ⟨b, 1, none⟩ = some y ∧ (w.alloc (.cells #[x, y, z] T)).cell? ⟨b, 2, none⟩ = some z := by
 have h : (w.alloc (.cells #[x, y, z] T)).heap[b]? = some (.cells #[x, y, z] T) := by
  subst hb
  show (w.heap.push _)[w.heap.size]? = _
  simp
 simp [World.cell?, h]
theorem below_ad (w : World) (o : Obj) : Below w.heap.size w (w.alloc o).drew := (below1 w o).drew
theorem cmpOr_new (b : Nat) (x y z : Int) (w : World) (T : TypeId) (hb : b = w.heap.size) : Calls Tryz.prog 107 #[.slice (some ⟨b, 0, none⟩) 3 3] (w.alloc (.cells #[.int .i64 x, .int .i64 y, .int .i64 z] T)).drew fun e w' => ∃ r : Int, e = .returned (.int .i64 r) ∧ Hid (r = orI x (orI y z)) ∧ w' = (w.alloc (.cells #[.int .i64 x, .int .i64 y, .int .i64 z] T)).drew := by
 obtain ⟨h0, h1, h2⟩ := box_cells w (.int .i64 x) (.int .i64 y) (.int .i64 z) T b hb
 refine (cmpOr_any b 3 3 [x, y, z] _ rfl (by omega) (fun i hi => ?_)).mono fun e w' ⟨⟨r, h, hr⟩, h'⟩ => ⟨r, h, by show _ = _; rw [hr.out, firstN_three], h'.symm⟩
 rcases i with _ | _ | _ | i
 ·exact h0
 ·exact h1
 ·exact h2
 ·omega
set_option maxHeartbeats 4000000 in
set_option maxRecDepth 100000 in
theorem compareEdges_at (x y : Ed) (w : World) :
  Calls Tryz.prog 94 #[ev x, ev y] w fun e w' => ∃ (r : Int) (o1 o2 o3 : Obj), e = .returned (.int .i64 r) ∧ Hid (r = cmpE x y) ∧ Hid (w' = (((w.alloc o1).alloc o2).alloc o3).drew) := by
 obtain ⟨x0, x1, x2⟩ := x
 obtain ⟨y0, y1, y2⟩ := y
 obtain ⟨c0, H0⟩ : ∃ c, Hid (c = cmpI x0 y0) := ⟨_, rfl⟩
 obtain ⟨c1, H1⟩ : ∃ c, Hid (c = cmpI x1 y1) := ⟨_, rfl⟩
 obtain ⟨c2, H2⟩ : ∃ c, Hid (c = cmpI x2 y2) := ⟨_, rfl⟩
 have HE : Hid (cmpE (x0, x1, x2) (y0, y1, y2) = orI c0 (orI c1 c2)) := by show _ = _; rw [H0.out, H1.out, H2.out]; rfl
 have T1 : Hid (∀ w, Calls Tryz.prog 108 #[.int .i64 x0, .int .i64 y0] w fun e w' => e = .returned (.int .i64 c0) ∧ w' = w) := fun w => by rw [H0.out]; exact (compare_any x0 y0 w).mono fun _ _ h => ⟨h.1, h.2.symm⟩
 have T2 : Hid (∀ w, Calls Tryz.prog 108 #[.int .i64 x2, .int .i64 y2] w fun e w' => e = .returned (.int .i64 c2) ∧ w' = w) := fun w => by rw [H2.out]; exact (compare_any x2 y2 w).mono fun _ _ h => ⟨h.1, h.2.symm⟩
 have T3 : Hid (∀ w, Calls Tryz.prog 109 #[.int .u8 x1, .int .u8 y1] w fun e w' => e = .returned (.int .i64 c1) ∧ w' = w) := fun w => by rw [H1.out]; exact (compare8_any x1 y1 w).mono fun _ _ h => ⟨h.1, h.2.symm⟩
 clear H0 H1 H2
 have K1 : True := trivial
 have K2 : True := trivial
 go_enter Tryz.func94, Tryz.ntmps94
 go_wp2_with fail
 obtain ⟨W, HW⟩ : ∃ W, Hid (W = ((w.alloc (Obj.cells #[.int .i64 x0, .int .u8 x1, .int .i64 x2] 166)).alloc (Obj.cells #[.int .i64 y0, .int .u8 y1, .int .i64 y2] 166))) := ⟨_, rfl⟩
 rw [← HW.out]
 have HB : Hid (Below w.heap.size w W) := by show Below _ _ _; rw [HW.out]; exact below2 w _ _
 obtain ⟨a0, a1, a2⟩ : W.cell? ⟨w.heap.size, 0, none⟩ = some (.int .i64 x0) ∧ W.cell? ⟨w.heap.size, 1, none⟩ = some (.int .u8 x1) ∧ W.cell? ⟨w.heap.size, 2, none⟩ = some (.int .i64 x2) := by
  obtain ⟨h0, h1, h2⟩ := box_cells w (.int .i64 x0) (.int .u8 x1) (.int .i64 x2) 166 _ rfl
  rw [HW.out]
  exact ⟨cell_below h0 (below1 _ _) (by simp), cell_below h1 (below1 _ _) (by simp), cell_below h2 (below1 _ _) (by simp)⟩
 obtain ⟨b0, b1, b2⟩ : W.cell? ⟨w.heap.size + 1, 0, none⟩ = some (.int .i64 y0) ∧ W.cell? ⟨w.heap.size + 1, 1, none⟩ = some (.int .u8 y1) ∧ W.cell? ⟨w.heap.size + 1, 2, none⟩ = some (.int .i64 y2) := by
  rw [HW.out]
  exact box_cells _ _ _ _ 166 _ (by simp)
 go_region_held3 (fun w' => w'.cell? ⟨w.heap.size, 0, none⟩ = some (.int .i64 x0) ∧ w'.cell? ⟨w.heap.size, 1, none⟩ = some (.int .u8 x1) ∧ w'.cell? ⟨w.heap.size, 2, none⟩ = some (.int .i64 x2) ∧ w'.cell? ⟨w.heap.size + 1, 0, none⟩ = some (.int .i64 y0) ∧ w'.cell? ⟨w.heap.size + 1, 1, none⟩ = some (.int .u8 y1) ∧ w'.cell? ⟨w.heap.size + 1, 2, none⟩ = some (.int .i64 y2)) (first | exact ⟨a0, a1, a2, b0, b1, b2⟩ | exact ⟨cell_below a0 (below_ad _ _) (lt_of_cell a0), cell_below a1 (below_ad _ _) (lt_of_cell a1), cell_below a2 (below_ad _ _) (lt_of_cell a2), cell_below b0 (below_ad _ _) (lt_of_cell b0), cell_below b1 (below_ad _ _) (lt_of_cell b1), cell_below b2 (below_ad _ _) (lt_of_cell b2)⟩) (first | (go_at_call 108; clear K1; refine (T1.out _).mono ?_; rintro e w1 ⟨rfl, rfl⟩) | (go_at_call 108; clear K2; refine (T2.out _).mono ?_; rintro e w1 ⟨rfl, rfl⟩) | (go_at_call 109; refine (T3.out _).mono ?_; rintro e w1 ⟨rfl, rfl⟩) | (go_at_call 107; refine (cmpOr_new _ _ _ _ _ _ (by rfl)).mono ?_; rintro e w1 ⟨r, rfl, HR, rfl⟩))
 all_goals go_wp2
 all_goals go_ret
 all_goals exact ⟨r, _, _, _, rfl, by show _ = _; rw [HR.out, HE.out], by show _ = _; rw [HW.out]⟩
def inV (s v : Int) : Bool := decide (0 ≤ v) && decide (v < s)
def okE (s : Int) (x : Ed) : Bool := inV s x.1 && inV s x.2.2 && decide (97 ≤ x.2.1) && decide (x.2.1 ≤ 100)
end Go.Proofs.YtbepmeipjdpipaaGreat

namespace Go.Proofs.YtbepmeipjdpipaaGreat
open Go.RowKit
def eat (l : List Ed) (i : Nat) : Ed := l.getD i (0, 0, 0)
def ef (l : List Ed) (j : Nat) : Value := if j % 3 = 0 then .int .i64 (eat l (j / 3)).1 else if j % 3 = 1 then .int .u8 (eat l (j / 3)).2.1 else .int .i64 (eat l (j / 3)).2.2
theorem ef0 (l : List Ed) (i : Nat) : ef l (i * 3) = .int .i64 (eat l i).1 := by unfold ef; rw [if_pos (by omega), show i * 3 / 3 = i by omega]
theorem ef1 (l : List Ed) (i : Nat) : ef l (i * 3 + 1) = .int .u8 (eat l i).2.1 := by unfold ef; rw [if_neg (by omega), if_pos (by omega), show (i * 3 + 1) / 3 = i by omega]
theorem ef2 (l : List Ed) (i : Nat) : ef l (i * 3 + 2) = .int .i64 (eat l i).2.2 := by unfold ef; rw [if_neg (by omega), if_neg (by omega), show (i * 3 + 2) / 3 = i by omega]
theorem eat_get {l : List Ed} {i : Nat} (h : i < l.length) : eat l i = l[i] := by simp [eat, List.getD, h]
theorem eat_set {l : List Ed} {k i : Nat} (hk : k < l.length) (x : Ed) : eat (l.set k x) i = if i = k then x else eat l i := by
 unfold eat List.getD
 by_cases e : i = k
 ·subst e; simp [hk]
 ·simp [e, List.getElem?_set_ne (Ne.symm e)]
def EdgeAt (w : World) (b o : Nat) (x : Ed) : Prop := w.cell? ⟨b, o, none⟩ = some (.int .i64 x.1) ∧ w.cell? ⟨b, o + 1, none⟩ = some (.int .u8 x.2.1) ∧ w.cell? ⟨b, o + 2, none⟩ = some (.int .i64 x.2.2)
def EdgesIn (lo hi : Nat) (w : World) (a : Option Addr) (l : List Ed) : Prop :=
 l = [] ∨ ∃ b o, a = some ⟨b, o, none⟩ ∧ lo ≤ b ∧ b < hi ∧ ∀ i, i < l.length → EdgeAt w b (o + i * 3) (eat l i)
def EBlk (w : World) (b : Nat) (l : List Ed) : Prop := Blk w b (l.length * 3) (ef l)
def EdgesOwn (lo hi : Nat) (w : World) (a : Option Addr) (l : List Ed) : Prop :=
 l = [] ∨ ∃ b, a = some ⟨b, 0, none⟩ ∧ lo ≤ b ∧ b < hi ∧ EBlk w b l
theorem EdgeAt.below {w w' : World} {b o B : Nat} {x : Ed} (h : EdgeAt w b o x) (hb : Below B w w') (hl : b < B) : EdgeAt w' b o x :=
 ⟨cell_below h.1 hb hl, cell_below h.2.1 hb hl, cell_below h.2.2 hb hl⟩
theorem EdgesIn.below {lo hi B : Nat} {w w' : World} {a : Option Addr} {l : List Ed} (h : EdgesIn lo hi w a l) (hb : Below B w w') (hB : hi ≤ B) : EdgesIn lo hi w' a l := by
 rcases h with h | ⟨b, o, e, h1, h2, h3⟩
 ·exact .inl h
 ·exact .inr ⟨b, o, e, h1, h2, fun i hi => (h3 i hi).below hb (by omega)⟩
theorem EdgesIn.wide {lo hi lo' hi' : Nat} {w : World} {a : Option Addr} {l : List Ed} (h : EdgesIn lo hi w a l) (h1 : lo' ≤ lo) (h2 : hi ≤ hi') : EdgesIn lo' hi' w a l := by
 rcases h with h | ⟨b, o, e, h3, h4, h5⟩
 ·exact .inl h
 ·exact .inr ⟨b, o, e, by omega, by omega, h5⟩
theorem EdgesIn.kept {lo hi : Nat} {p : Nat → Prop} {w w' : World} {a : Option Addr} {l : List Ed} (h : EdgesIn lo hi w a l) (hk : KeptP p w w') (hh : hi ≤ w.heap.size) (hp : ∀ k, lo ≤ k → k < hi → ¬ p k) : EdgesIn lo hi w' a l := by
 rcases h with h | ⟨b, o, e, h1, h2, h3⟩
 ·exact .inl h
 ·refine .inr ⟨b, o, e, h1, h2, fun i hi => ?_⟩
  obtain ⟨c0, c1, c2⟩ := h3 i hi
  exact ⟨hk.cell c0 (by omega) (hp b h1 h2), hk.cell c1 (by omega) (hp b h1 h2), hk.cell c2 (by omega) (hp b h1 h2)⟩
theorem EdgesIn.edge {lo hi : Nat} {w : World} {a : Option Addr} {l : List Ed} (h : EdgesIn lo hi w a l) {k : Nat} (hk : k < l.length) : ∃ b o, a = some ⟨b, o, none⟩ ∧ lo ≤ b ∧ b < hi ∧ EdgeAt w b (o + k * 3) (eat l k) := by
 rcases h with rfl | ⟨b, o, e, h1, h2, h3⟩
 ·simp at hk
 ·exact ⟨b, o, e, h1, h2, h3 k hk⟩
theorem EBlk.edge {w : World} {b k : Nat} {l : List Ed} (h : EBlk w b l) (hk : k < l.length) : EdgeAt w b (k * 3) (eat l k) := by
 refine ⟨?_, ?_, ?_⟩
 ·rw [Blk.cell h (by omega), ef0]
 ·rw [Blk.cell h (by omega), ef1]
 ·rw [Blk.cell h (by omega), ef2]
theorem EdgesOwn.toIn {lo hi : Nat} {w : World} {a : Option Addr} {l : List Ed} (h : EdgesOwn lo hi w a l) : EdgesIn lo hi w a l := by
 rcases h with h | ⟨b, e, h1, h2, h3⟩
 ·exact .inl h
 ·exact .inr ⟨b, 0, e, h1, h2, fun i hi => by rw [Nat.zero_add]; exact h3.edge hi⟩
theorem EdgesOwn.below {lo hi B : Nat} {w w' : World} {a : Option Addr} {l : List Ed} (h : EdgesOwn lo hi w a l) (hb : Below B w w') (hB : hi ≤ B) : EdgesOwn lo hi w' a l := by
 rcases h with h | ⟨b, e, h1, h2, h3⟩
 ·exact .inl h
 ·exact .inr ⟨b, e, h1, h2, Blk.of_block h3 (hb.block b (by omega))⟩
theorem EdgesOwn.wide {lo hi lo' hi' : Nat} {w : World} {a : Option Addr} {l : List Ed} (h : EdgesOwn lo hi w a l) (h1 : lo' ≤ lo) (h2 : hi ≤ hi') : EdgesOwn lo' hi' w a l := by
 rcases h with h | ⟨b, e, h3, h4, h5⟩
 ·exact .inl h
 ·exact .inr ⟨b, e, by omega, by omega, h5⟩
theorem EdgesOwn.kept {lo hi : Nat} {p : Nat → Prop} {w w' : World} {a : Option Addr} {l : List Ed} (h : EdgesOwn lo hi w a l) (hk : KeptP p w w') (hp : ∀ k, lo ≤ k → k < hi → ¬ p k) : EdgesOwn lo hi w' a l := by
 rcases h with h | ⟨b, e, h1, h2, h3⟩
 ·exact .inl h
 ·exact .inr ⟨b, e, h1, h2, hk.blk h3 (hp b h1 h2)⟩
theorem EdgesOwn.setCell {lo hi b j : Nat} {w : World} {a : Option Addr} {l : List Ed} (h : EdgesOwn lo hi w a l) (hb : b < lo) (v : Value) : EdgesOwn lo hi (w.setCell ⟨b, j, none⟩ v) a l := by
 rcases h with h | ⟨g, e, h1, h2, h3⟩
 ·exact .inl h
 ·exact .inr ⟨g, e, h1, h2, Blk.of_block h3 (Below.heap_setCell w ⟨b, j, none⟩ v g (by simp; omega))⟩
theorem EBlk.put {w : World} {b k : Nat} {l : List Ed} (h : EBlk w b l) (hk : k < l.length) (x : Ed) :
  EBlk (((w.setCell ⟨b, k * 3, none⟩ (.int .i64 x.1)).setCell ⟨b, k * 3 + 1, none⟩ (.int .u8 x.2.1)).setCell ⟨b, k * 3 + 2, none⟩ (.int .i64 x.2.2)) b (l.set k x) := by
 have h3 := ((Blk.set h (k * 3) (by omega) (.int .i64 x.1)).set (k * 3 + 1) (by omega) (.int .u8 x.2.1)).set (k * 3 + 2) (by omega) (.int .i64 x.2.2)
 unfold EBlk
 rw [List.length_set]
 refine h3.congr fun j hj => ?_
 unfold ef
 rw [eat_set hk]
 by_cases e2 : j = k * 3 + 2
 ·subst e2
  rw [if_pos rfl, if_neg (by omega), if_neg (by omega), if_pos (by omega)]
 ·rw [if_neg e2]
  by_cases e1 : j = k * 3 + 1
  ·subst e1
   rw [if_pos rfl, if_neg (by omega), if_pos (by omega), if_pos (by omega)]
  ·rw [if_neg e1]
   by_cases e0 : j = k * 3
   ·subst e0
    rw [if_pos rfl, if_pos (by omega), if_pos (by omega)]
   ·rw [if_neg e0, if_neg (show ¬ j / 3 = k by omega)]
theorem set_above {w w' : World} {B b j : Nat} (h : Below B w w') (hb : B ≤ b) (v : Value) : Below B w (w'.setCell ⟨b, j, none⟩ v) := h.setCell hb v
theorem blk_three (w : World) (b : Nat) (hb : b = w.heap.size) (x y z : Value) (T : TypeId) : Blk (w.alloc (.cells #[x, y, z] T)) b 3 (fun i => if i = 0 then x else if i = 1 then y else z) :=
 hb ▸ blk_new w #[x, y, z] T _ (fun i hi => by
  have hi' : i < 3 := hi
  rcases i with _ | _ | _ | i
  ·rfl
  ·rfl
  ·rfl
  ·omega)
end Go.Proofs.YtbepmeipjdpipaaGreat

namespace Go.Proofs.YtbepmeipjdpipaaGreat
open Go.RowKit
def FlIn (s lo hi : Nat) (w : World) (a : Option Addr) (n : Nat) (c : Nat → Value) : Prop :=
 n = 0 ∨ ∃ b o, a = some ⟨b, o, none⟩ ∧ lo ≤ b ∧ b < hi ∧ ∀ j, j < n * s → w.cell? ⟨b, o + j, none⟩ = some (c j)
def FlOwn (s lo hi : Nat) (w : World) (a : Option Addr) (n : Nat) (c : Nat → Value) : Prop :=
 n = 0 ∨ ∃ b, a = some ⟨b, 0, none⟩ ∧ lo ≤ b ∧ b < hi ∧ Blk w b (n * s) c
theorem FlIn.below {s lo hi B n : Nat} {w w' : World} {a : Option Addr} {c : Nat → Value} (h : FlIn s lo hi w a n c) (hb : Below B w w') (hB : hi ≤ B) : FlIn s lo hi w' a n c := by
 rcases h with h | ⟨b, o, e, h1, h2, h3⟩
 ·exact .inl h
 ·exact .inr ⟨b, o, e, h1, h2, fun j hj => cell_below (h3 j hj) hb (by omega)⟩
theorem FlIn.wide {s lo hi lo' hi' n : Nat} {w : World} {a : Option Addr} {c : Nat → Value} (h : FlIn s lo hi w a n c) (h1 : lo' ≤ lo) (h2 : hi ≤ hi') : FlIn s lo' hi' w a n c := by
 rcases h with h | ⟨b, o, e, h3, h4, h5⟩
 ·exact .inl h
 ·exact .inr ⟨b, o, e, by omega, by omega, h5⟩
theorem FlIn.kept {s lo hi n : Nat} {p : Nat → Prop} {w w' : World} {a : Option Addr} {c : Nat → Value} (h : FlIn s lo hi w a n c) (hk : KeptP p w w') (hh : hi ≤ w.heap.size) (hp : ∀ k, lo ≤ k → k < hi → ¬ p k) : FlIn s lo hi w' a n c := by
 rcases h with h | ⟨b, o, e, h1, h2, h3⟩
 ·exact .inl h
 ·exact .inr ⟨b, o, e, h1, h2, fun j hj => hk.cell (h3 j hj) (by omega) (hp b h1 h2)⟩
theorem FlIn.at {s lo hi n k : Nat} {w : World} {a : Option Addr} {c : Nat → Value} (h : FlIn s lo hi w a n c) (hk : k < n) : ∃ b o, a = some ⟨b, o, none⟩ ∧ lo ≤ b ∧ b < hi ∧ ∀ i, i < s → w.cell? ⟨b, o + (k * s + i), none⟩ = some (c (k * s + i)) := by
 rcases h with h | ⟨b, o, e, h1, h2, h3⟩
 ·omega
 ·refine ⟨b, o, e, h1, h2, fun i hi => h3 _ ?_⟩
  have : (k + 1) * s ≤ n * s := Nat.mul_le_mul_right s (by omega)
  rw [Nat.add_mul, Nat.one_mul] at this
  omega
theorem FlIn.congr {s lo hi n : Nat} {w : World} {a : Option Addr} {c c' : Nat → Value} (h : FlIn s lo hi w a n c) (e : ∀ j, j < n * s → c j = c' j) : FlIn s lo hi w a n c' := by
 rcases h with h | ⟨b, o, e0, h1, h2, h3⟩
 ·exact .inl h
 ·exact .inr ⟨b, o, e0, h1, h2, fun j hj => by rw [h3 j hj, e j hj]⟩
theorem FlOwn.toIn {s lo hi n : Nat} {w : World} {a : Option Addr} {c : Nat → Value} (h : FlOwn s lo hi w a n c) : FlIn s lo hi w a n c := by
 rcases h with h | ⟨b, e, h1, h2, h3⟩
 ·exact .inl h
 ·exact .inr ⟨b, 0, e, h1, h2, fun j hj => by rw [Nat.zero_add]; exact h3.cell hj⟩
theorem FlOwn.below {s lo hi B n : Nat} {w w' : World} {a : Option Addr} {c : Nat → Value} (h : FlOwn s lo hi w a n c) (hb : Below B w w') (hB : hi ≤ B) : FlOwn s lo hi w' a n c := by
 rcases h with h | ⟨b, e, h1, h2, h3⟩
 ·exact .inl h
 ·exact .inr ⟨b, e, h1, h2, h3.of_block (hb.block b (by omega))⟩
theorem FlOwn.wide {s lo hi lo' hi' n : Nat} {w : World} {a : Option Addr} {c : Nat → Value} (h : FlOwn s lo hi w a n c) (h1 : lo' ≤ lo) (h2 : hi ≤ hi') : FlOwn s lo' hi' w a n c := by
 rcases h with h | ⟨b, e, h3, h4, h5⟩
 ·exact .inl h
 ·exact .inr ⟨b, e, by omega, by omega, h5⟩
theorem FlOwn.kept {s lo hi n : Nat} {p : Nat → Prop} {w w' : World} {a : Option Addr} {c : Nat → Value} (h : FlOwn s lo hi w a n c) (hk : KeptP p w w') (hp : ∀ k, lo ≤ k → k < hi → ¬ p k) : FlOwn s lo hi w' a n c := by
 rcases h with h | ⟨b, e, h1, h2, h3⟩
 ·exact .inl h
 ·exact .inr ⟨b, e, h1, h2, hk.blk h3 (hp b h1 h2)⟩
theorem FlOwn.setCell {s lo hi b j n : Nat} {w : World} {a : Option Addr} {c : Nat → Value} (h : FlOwn s lo hi w a n c) (hb : b < lo) (v : Value) : FlOwn s lo hi (w.setCell ⟨b, j, none⟩ v) a n c := by
 rcases h with h | ⟨g, e, h1, h2, h3⟩
 ·exact .inl h
 ·exact .inr ⟨g, e, h1, h2, h3.of_block (Below.heap_setCell w ⟨b, j, none⟩ v g (by simp; omega))⟩
theorem FlIn.setCell {s lo hi b j n : Nat} {w : World} {a : Option Addr} {c : Nat → Value} (h : FlIn s lo hi w a n c) (hb : b < lo) (v : Value) : FlIn s lo hi (w.setCell ⟨b, j, none⟩ v) a n c := by
 rcases h with h | ⟨g, o, e, h1, h2, h3⟩
 ·exact .inl h
 ·exact .inr ⟨g, o, e, h1, h2, fun i hi => by rw [← h3 i hi]; exact World.cell?_of_block (a := ⟨g, o + i, none⟩) (Below.heap_setCell w ⟨b, j, none⟩ v g (by simp; omega))⟩
abbrev Tx := ByteArray
abbrev At := ByteArray × ByteArray × ByteArray
abbrev Fl := ByteArray × Int × ByteArray × Int
def tat (l : List Tx) (i : Nat) : Tx := l.getD i ByteArray.empty
def aat (l : List At) (i : Nat) : At := l.getD i (ByteArray.empty, ByteArray.empty, ByteArray.empty)
def fat (l : List Fl) (i : Nat) : Fl := l.getD i (ByteArray.empty, 0, ByteArray.empty, 0)
def tC (l : List Tx) (j : Nat) : Value := .string (tat l j)
def aC (l : List At) (j : Nat) : Value := if j % 3 = 0 then .string (aat l (j / 3)).1 else if j % 3 = 1 then .string (aat l (j / 3)).2.1 else .string (aat l (j / 3)).2.2
def fC (l : List Fl) (j : Nat) : Value := if j % 4 = 0 then .string (fat l (j / 4)).1 else if j % 4 = 1 then .int .i64 (fat l (j / 4)).2.1 else if j % 4 = 2 then .string (fat l (j / 4)).2.2.1 else .int .i64 (fat l (j / 4)).2.2.2
theorem tC0 (l : List Tx) (i : Nat) : tC l (i * 1 + 0) = .string (tat l i) := by unfold tC; rw [show i * 1 + 0 = i by omega]
theorem aC0 (l : List At) (i : Nat) : aC l (i * 3 + 0) = .string (aat l i).1 := by unfold aC; rw [if_pos (by omega), show (i * 3 + 0) / 3 = i by omega]
theorem aC1 (l : List At) (i : Nat) : aC l (i * 3 + 1) = .string (aat l i).2.1 := by unfold aC; rw [if_neg (by omega), if_pos (by omega), show (i * 3 + 1) / 3 = i by omega]
theorem aC2 (l : List At) (i : Nat) : aC l (i * 3 + 2) = .string (aat l i).2.2 := by unfold aC; rw [if_neg (by omega), if_neg (by omega), show (i * 3 + 2) / 3 = i by omega]
theorem fC0 (l : List Fl) (i : Nat) : fC l (i * 4 + 0) = .string (fat l i).1 := by unfold fC; rw [if_pos (by omega), show (i * 4 + 0) / 4 = i by omega]
theorem fC1 (l : List Fl) (i : Nat) : fC l (i * 4 + 1) = .int .i64 (fat l i).2.1 := by unfold fC; rw [if_neg (by omega), if_pos (by omega), show (i * 4 + 1) / 4 = i by omega]
theorem fC2 (l : List Fl) (i : Nat) : fC l (i * 4 + 2) = .string (fat l i).2.2.1 := by unfold fC; rw [if_neg (by omega), if_neg (by omega), if_pos (by omega), show (i * 4 + 2) / 4 = i by omega]
theorem fC3 (l : List Fl) (i : Nat) : fC l (i * 4 + 3) = .int .i64 (fat l i).2.2.2 := by unfold fC; rw [if_neg (by omega), if_neg (by omega), if_neg (by omega), show (i * 4 + 3) / 4 = i by omega]
theorem tat_get {l : List Tx} {i : Nat} (h : i < l.length) : tat l i = l[i] := by simp [tat, List.getD, h]
theorem aat_get {l : List At} {i : Nat} (h : i < l.length) : aat l i = l[i] := by simp [aat, List.getD, h]
theorem fat_get {l : List Fl} {i : Nat} (h : i < l.length) : fat l i = l[i] := by simp [fat, List.getD, h]
theorem drop_t {l l' : List Tx} {n k : Nat} (h : l.length = n) (h' : l'.length = n) (hk : k < n) : (l.drop k = l'.drop k) ↔ (tat l k = tat l' k ∧ l.drop (k + 1) = l'.drop (k + 1)) := by
 rw [List.drop_eq_getElem_cons (by omega), List.drop_eq_getElem_cons (l := l') (by omega), List.cons.injEq, tat_get (by omega), tat_get (by omega)]
theorem drop_a {l l' : List At} {n k : Nat} (h : l.length = n) (h' : l'.length = n) (hk : k < n) : (l.drop k = l'.drop k) ↔ (aat l k = aat l' k ∧ l.drop (k + 1) = l'.drop (k + 1)) := by
 rw [List.drop_eq_getElem_cons (by omega), List.drop_eq_getElem_cons (l := l') (by omega), List.cons.injEq, aat_get (by omega), aat_get (by omega)]
theorem drop_f {l l' : List Fl} {n k : Nat} (h : l.length = n) (h' : l'.length = n) (hk : k < n) : (l.drop k = l'.drop k) ↔ (fat l k = fat l' k ∧ l.drop (k + 1) = l'.drop (k + 1)) := by
 rw [List.drop_eq_getElem_cons (by omega), List.drop_eq_getElem_cons (l := l') (by omega), List.cons.injEq, fat_get (by omega), fat_get (by omega)]
theorem toList_inj {s t : ByteArray} : (s.toList == t.toList) = true ↔ s = t := by
 constructor
 ·intro h
  have h1 : s.toList = t.toList := by simpa using h
  rw [Lib.toList_data, Lib.toList_data] at h1
  exact Go.WideShapes.bytes_inj h1
 ·rintro rfl; simp
theorem toList_eq {s t : ByteArray} : (s.toList == t.toList) = decide (s = t) := by
 rw [Bool.eq_iff_iff, toList_inj, decide_eq_true_eq]
theorem blk_four (w : World) (b : Nat) (hb : b = w.heap.size) (x y z u : Value) (T : TypeId) : Blk (w.alloc (.cells #[x, y, z, u] T)) b 4 (fun i => if i = 0 then x else if i = 1 then y else if i = 2 then z else u) :=
 hb ▸ blk_new w #[x, y, z, u] T _ (fun i hi => by
  have hi' : i < 4 := hi
  rcases i with _ | _ | _ | _ | i
  ·rfl
  ·rfl
  ·rfl
  ·rfl
  ·omega)
end Go.Proofs.YtbepmeipjdpipaaGreat
