/-
  What a law keeps at hand while it goes on: what was there, the boxes of its variables. toBag, toIntS, eqBag, markBag, heldBag in these words.
-/
import Derived.Test.YtijbngdafgmpaaaMarkB
namespace Go.Proofs.Ytijbngdafgmpaaa
open Go.RowKit

/-- what was there is as it was; each box holds its value -/
structure Held (w wi : World) (bx : List (Nat × Value)) : Prop where
  bel : Below w.heap.size w wi
  box : ∀ p ∈ bx, Blk wi p.1 1 (fun _ => p.2)
theorem Held.below {w wi wj : World} {bx : List (Nat × Value)} (h : Held w wi bx) (hb : Below wi.heap.size wi wj) : Held w wj bx :=
  ⟨h.bel.trans (hb.mono h.bel.size), fun p hp => (h.box p hp).of_block (hb.block _ (h.box p hp).lt)⟩
theorem Held.kept {w wi wj : World} {bx : List (Nat × Value)} {p : Nat → Prop} (h : Held w wi bx) (hk : KeptP p wi wj) (h1 : ∀ x ∈ bx, ¬ p x.1) (h2 : ∀ k, p k → w.heap.size ≤ k) : Held w wj bx :=
  ⟨h.bel.trans (hk.to_below h.bel.size h2), fun x hx => hk.blk (h.box x hx) (h1 x hx)⟩
theorem Held.more {w wi : World} {bx : List (Nat × Value)} (h : Held w wi bx) (v : Value) (T : TypeId) : Held w (wi.alloc (.cells #[v] T)) ((wi.heap.size, v) :: bx) :=
  ⟨h.bel.alloc h.bel.size _, fun p hp => by
    rcases List.mem_cons.1 hp with rfl | hp
    · exact blk_one wi _ rfl _ _
    · exact (h.box p hp).alloc _⟩
theorem Held.cell {w wi : World} {bx : List (Nat × Value)} (h : Held w wi bx) {b : Nat} {v : Value} (hm : (b, v) ∈ bx) : wi.cell? ⟨b, 0, none⟩ = some v := (h.box _ hm).cell (i := 0) (by omega)
theorem Held.lt {w wi : World} {bx : List (Nat × Value)} (h : Held w wi bx) {b : Nat} {v : Value} (hm : (b, v) ∈ bx) : b < wi.heap.size := (h.box _ hm).lt
theorem Held.start (w : World) (v : Value) (T : TypeId) : Held w (w.alloc (.cells #[v] T)) [(w.heap.size, v)] :=
  ⟨below1' w _, fun p hp => by simp at hp; subst hp; exact blk_one w _ rfl _ _⟩

theorem BagOwn.kept {lo hi : Nat} {p : Nat → Prop} {w w' : World} {a : Option Addr} {l : List It} (h : BagOwn lo hi w a l) (hk : KeptP p w w') (hh : hi ≤ w.heap.size) (hp : ∀ c, lo ≤ c → c < hi → ¬ p c) : BagOwn lo hi w' a l := by
  rcases h with h | ⟨b, e, h1, h2, h3⟩
  · exact .inl h
  · exact .inr ⟨b, e, h1, h2, h3.of_blocks (hk.block b (by omega) (hp b h1 h2)) (fun c h4 h5 => hk.block c (by omega) (hp c h4 h5))⟩
theorem RowOwn.kept {lo hi : Nat} {p : Nat → Prop} {w w' : World} {a : Option Addr} {l : List Int} (h : RowOwn lo hi w a l) (hk : KeptP p w w') (hp : ∀ c, lo ≤ c → c < hi → ¬ p c) : RowOwn lo hi w' a l := by
  rcases h with h | ⟨b, e, h1, h2, h3⟩
  · exact .inl h
  · exact .inr ⟨b, e, h1, h2, hk.blk h3 (hp b h1 h2)⟩

/-- toBag, of a bag that came in -/
theorem toB {w w0 : World} {bx : List (Nat × Value)} (a : Option Addr) (n cap : Nat) (l : List It) (hr : BagIn 0 w.heap.size w a l) (hb : Held w w0 bx) (hl : l.length = n) (hm : n ≤ 1048576) (hq : ∀ i, i < n → (at' l i).1.length ≤ 1048576) :
    Calls Try.prog 42 #[.agg #[.slice a n cap]] w0 fun e w' => ∃ g : Nat, e = .returned (.agg #[.slice (some ⟨g, 0, none⟩) n n]) ∧ Hid (BagOwn w0.heap.size w'.heap.size w' (some ⟨g, 0, none⟩) l) ∧ Hid (Held w w' bx) ∧ Hid (Below w0.heap.size w0 w') :=
  (toBag_any 0 w.heap.size a n cap l w0 (hr.below hb.bel (Nat.le_refl _)) hb.bel.size hl hm hq).mono fun _ _ ⟨g, h1, h2, h3⟩ => ⟨g, h1, h2, hb.below h3.out, h3⟩
/-- toIntS, of a row that came in -/
theorem toIH {w w0 : World} {bx : List (Nat × Value)} (a : Option Addr) (n cap : Nat) (l : List Int) (hr : RowIn 0 w.heap.size w a l) (hb : Held w w0 bx) (hl : l.length = n) (hm : n ≤ 1048576) :
    Calls Try.prog 39 #[.slice a n cap] w0 fun e w' => ∃ g : Nat, e = .returned (.slice (some ⟨g, 0, none⟩) n n) ∧ Hid (RowOwn w0.heap.size w'.heap.size w' (some ⟨g, 0, none⟩) l) ∧ Hid (Held w w' bx) ∧ Hid (Below w0.heap.size w0 w') :=
  (toIL 0 w.heap.size a n cap l w0 (hr.below hb.bel (Nat.le_refl _)) hb.bel.size hl hm).mono fun _ _ ⟨g, h1, h2, h3⟩ => ⟨g, h1, h2, hb.below h3.out, h3⟩
/-- eqBag of two that are the same -/
theorem eqH {w w0 : World} {bx : List (Nat × Value)} {lo hi lo' hi' : Nat} (a a' : Option Addr) (n cap cap' : Nat) (l : List It) (hb : Held w w0 bx) (h1 : BagIn lo hi w0 a l) (h2 : BagIn lo' hi' w0 a' l) (hh : hi ≤ w0.heap.size) (hh' : hi' ≤ w0.heap.size) (hl : l.length = n) (hm : n ≤ 1048576) (hq : ∀ i, i < n → (at' l i).1.length ≤ 1048576) :
    Calls Try.prog 43 #[.agg #[.slice a n cap], .agg #[.slice a' n cap']] w0 fun e w' => e = .returned (.bool true) ∧ Hid (Held w w' bx) ∧ Hid (Below w0.heap.size w0 w') :=
  (eqBag_any lo hi lo' hi' a a' n n cap cap' l l true w0 h1 h2 hh hh' hl hl hm hq (by simp)).mono fun _ _ ⟨h3, h4⟩ => ⟨h3, hb.below h4, h4⟩
/-- markBag -/
theorem markH {w w0 : World} {bx : List (Nat × Value)} {lo hi : Nat} (a : Option Addr) (n cap K : Nat) (l : List It) (hb : Held w w0 bx) (h1 : BagOwn lo hi w0 a l) (hh : hi ≤ w0.heap.size) (hlo : w.heap.size ≤ lo) (hbx : ∀ x ∈ bx, ¬ (lo ≤ x.1 ∧ x.1 < hi)) (hl : l.length = n) (hm : n ≤ 1048576) (hs : rowsLen l n ≤ 1048576) (hK : K ≤ 1048576) :
    Calls Try.prog 44 #[.agg #[.slice a n cap], .int .i64 (K : Int)] w0 fun e w' => ∃ m : Nat, e = .returned (.int .i64 (m : Int)) ∧ Hid (m = pos K l n) ∧ Hid (BagOwn lo hi w' a (mkTo K l n)) ∧ Hid (Held w w' bx) ∧ Hid (KeptP (fun c => lo ≤ c ∧ c < hi) w0 w') :=
  (markBag_any lo hi a n cap K l w0 h1 hh hl hm hs hK).mono fun _ _ ⟨m, h3, h4, h5, h6⟩ => ⟨m, h3, h4, h5, hb.kept h6.out hbx (fun _ hk => Nat.le_trans hlo hk.1), h6⟩
/-- heldBag -/
theorem heldH {w w0 : World} {bx : List (Nat × Value)} {lo hi : Nat} (a : Option Addr) (n cap K : Nat) (l : List It) (hb : Held w w0 bx) (h1 : BagOwn lo hi w0 a (mkTo K l n)) (hh : hi ≤ w0.heap.size) (hl : l.length = n) (hm : n ≤ 1048576) (hs : rowsLen l n ≤ 1048576) (hK : K ≤ 1048576) :
    Calls Try.prog 46 #[.agg #[.slice a n cap], .int .i64 (K : Int)] w0 fun e w' => ∃ m : Nat, e = .returned (.int .i64 (m : Int)) ∧ Hid (m = pos K l n) ∧ Hid (BagOwn lo hi w' a (mkTo K l n)) ∧ Hid (Held w w' bx) ∧ Hid (Below w0.heap.size w0 w') :=
  (heldBag_any lo hi a n cap K l w0 h1.toIn hh hl hm hs hK).mono fun _ _ ⟨m, h3, h4, h5⟩ => ⟨m, h3, h4, h1.below h5.out hh, hb.below h5.out, h5⟩
end Go.Proofs.Ytijbngdafgmpaaa
