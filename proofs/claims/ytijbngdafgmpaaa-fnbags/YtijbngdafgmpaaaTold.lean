/-
  (*rowShelf).told.
-/
import Derived.Test.YtijbngdafgmpaaaShOf
import Derived.Test.YtijbngdafgmpaaaSrtC
namespace Go.Proofs.Ytijbngdafgmpaaa
open Go.RowKit Go.Maps

theorem item_one {M : List It} (h : Srt M) {x y : It} (hx : x ∈ M) (hy : y ∈ M) (e : x.1 = y.1) : x = y := by
  have h1 := timesOf_mem h hx
  have h2 := timesOf_mem h hy
  rw [e] at h1
  exact Prod.ext e (h1.symm.trans h2)
theorem srt_nodup {M : List It} (h : Srt M) : M.Nodup := h.imp (fun {x y} hlt e => by rw [e, rowLt_irrefl] at hlt; cases hlt)

/-- what has been met of a map so far -/
structure Coll (M : List It) (left : Lit → Bool) (L : List It) : Prop where
  mem : ∀ x ∈ L, x ∈ M ∧ left (keyL (kx x.1)) = false
  nodup : L.Nodup
  all : ∀ x ∈ M, left (keyL (kx x.1)) = true ∨ x ∈ L
theorem Coll.start {D : DataW Unit} {M : List It} (h : MapOf D M) : Coll M (Maps.has D) [] :=
  ⟨fun x hx => by simp at hx, List.nodup_nil, fun x hx => .inl ((h.has _).2 ⟨x, hx, rfl⟩)⟩
theorem Coll.step {W : Nat} {M L : List It} {left : Lit → Bool} {x : It} (h : Coll M left L) (hg : Good W M) (hx : x ∈ M) (hl : left (keyL (kx x.1)) = true) : Coll M (fun z => left z && !z.sameKey (keyL (kx x.1))) (L ++ [x]) := by
  have hk : WideAt.IsKeyLit (keyL (kx x.1)) := by unfold keyL; trivial
  refine ⟨fun y hy => ?_, ?_, fun y hy => ?_⟩
  · rcases List.mem_append.1 hy with hy | hy
    · exact ⟨(h.mem y hy).1, by simp [(h.mem y hy).2]⟩
    · obtain rfl : y = x := by simpa using hy
      exact ⟨hx, by simp [WideAt.sameKey_self hk]⟩
  · rw [List.nodup_append]
    refine ⟨h.nodup, by simp, fun a ha b hb e => ?_⟩
    obtain rfl : b = x := by simpa using hb
    subst e
    have := (h.mem a ha).2
    rw [hl] at this; cases this
  · rcases h.all y hy with hy2 | hy2
    · by_cases e : y = x
      · subst e; exact .inr (by simp)
      · refine .inl ?_
        have hne : keyL (kx y.1) ≠ keyL (kx x.1) := fun e2 => e (item_one hg.srt hy hx (keyL_eq hg hx (okItem_split.1 (hg.oks y hy)).1 (hg.even y hy) e2).symm)
        simp [hy2, Maps.sameKey_ne hne]
    · exact .inr (by simp [hy2])
theorem Coll.done {M L : List It} {left : Lit → Bool} (h : Coll M left L) (hs : Srt M) (hl : ∀ kl, left kl = false) : L.Perm M := by
  rw [List.perm_ext_iff_of_nodup h.nodup (srt_nodup hs)]
  intro x
  refine ⟨fun hx => (h.mem x hx).1, fun hx => ?_⟩
  rcases h.all x hx with h1 | h1
  · rw [hl] at h1; cases h1
  · exact h1
theorem sorted_is {M L : List It} (hs : Srt M) (hp : L.Perm M) (h : L.Pairwise fun x y => rowLt y.1 x.1 = false) : L = M := by
  have hne : L.Pairwise fun x y => x.1 ≠ y.1 := (hp.pairwise_iff (fun {x y} (h : x.1 ≠ y.1) => h.symm)).2 (hs.imp fun {x y} hlt => rowLt_ne hlt)
  have hL : Srt L := (h.and hne).imp fun {x y} hh => rowLt_total (Ne.symm hh.2) hh.1
  induction L generalizing M with
  | nil => exact (List.nil_perm.1 hp).symm
  | cons x xs ih =>
    cases M with
    | nil => exact absurd hp.length_eq (by simp)
    | cons y ys =>
      have exy : x = y := by
        obtain ⟨a1, a2⟩ := srt_cons.1 hL
        obtain ⟨b1, b2⟩ := srt_cons.1 hs
        have hx : x ∈ y :: ys := hp.mem_iff.1 (List.mem_cons_self ..)
        have hy : y ∈ x :: xs := hp.mem_iff.2 (List.mem_cons_self ..)
        rcases List.mem_cons.1 hx with e | hx
        · exact e
        · rcases List.mem_cons.1 hy with e | hy
          · exact e.symm
          · have := rowLt_trans (a1 y hy) (b1 x hx); rw [rowLt_irrefl] at this; cases this
      subst exy
      rw [ih (srt_cons.1 hs).2 (List.perm_cons _ |>.1 hp) (List.pairwise_cons.1 h).2 (List.pairwise_cons.1 hne).2 (srt_cons.1 hL).2]
theorem next_item {W : Nat} {D : DataW Unit} {M : List It} {kl : Lit} {x : Int × Int × Int × Int} {c : Int} {yd : DataW Unit} {yp : List MemPlace} (hm : MapOf D M) (hg : Good W M) (hkey : keyOf Try.prog 106 (keyV x) = some kl) (hv : plainElem Try.prog 3 (.int .i64 c) = some (yd, yp)) (hat : ∀ zd, D.atKey kl zd = (yd, yp).1) :
    ∃ it ∈ M, kl = keyL (kx it.1) ∧ x = kx it.1 ∧ c = it.2 := by
  obtain ⟨it, hit, rfl⟩ := (hm.has kl).1 (has_true_of_atKey hat)
  refine ⟨it, hit, rfl, ?_, ?_⟩
  · obtain ⟨x', e, hw, e2⟩ := key_inv hkey
    have e3 := key_eq (okRow_key (okItem_split.1 (hg.oks it hit)).1) hw e2
    rw [e3]
    obtain ⟨x0, x1, x2, x3⟩ := x
    obtain ⟨y0, y1, y2, y3⟩ := x'
    simp [keyV] at e
    obtain ⟨rfl, rfl, rfl, rfl⟩ := e
    rfl
  · have h1 := hat (.lit (.int .i64 0))
    rw [hm.val it hit] at h1
    obtain ⟨c', e, e2, _⟩ := plainElem_int_inv Try.underlying3 hv
    have e3 := h1.trans (congrArg Prod.fst e2)
    simp at e e3
    rw [e, e3]
theorem invK (key : Value) (kl : Lit) (h : keyOf Try.prog 106 key = some kl) : ∃ x, key = keyV x := by obtain ⟨x, h, _⟩ := key_inv h; exact ⟨x, h⟩
theorem invV (v : Value) (y : DataW Unit × List MemPlace) (h : plainElem Try.prog 3 v = some y) : ∃ c, v = Value.int .i64 c := by obtain ⟨c, h, _⟩ := plainElem_int_inv Try.underlying3 h; exact ⟨c, h⟩
/-- an iterator's step turns no row -/
theorem LaidO.iter {B M R : Nat} {w w' : World} {v : Value} {l : List It} (h : LaidO B M w v l) {m : Option Nat} {s : Nat} {se : Array Nat} {c : Nat} (hr : w.heap[R]? = some (.mapIter m s se c)) (hk : ∀ k, k < w.heap.size → k ≠ R → w'.heap[k]? = w.heap[k]?) : LaidO B M w' v l := by
  have keep : ∀ {b n : Nat} {f : Nat → Value}, Blk w b n f → Blk w' b n f := fun {b n f} hb => by
    refine hb.of_block (hk b hb.lt ?_)
    rintro rfl
    obtain ⟨cur, e, hc, _⟩ := hb
    rw [hr] at hc; cases hc
  obtain ⟨f, Rr, C, h1, h2⟩ := h
  refine ⟨f, Rr, C, ?_, fun i hi => ⟨(h2 i hi).1, ?_, (h2 i hi).2.2⟩⟩
  · refine ⟨h1.1, ?_⟩
    rcases h1.2 with h3 | ⟨g, cap, cur, e, h3, h4, h5⟩
    · exact .inl h3
    · refine .inr ⟨g, cap, cur, e, h3, ?_, h5⟩
      rw [hk g (Array.getElem?_eq_some_iff.1 h4).1 (by rintro rfl; rw [hr] at h4; cases h4)]; exact h4
  · rcases (h2 i hi).2.1 with h3 | ⟨c, e, h3, h4, h5⟩
    · exact .inl h3
    · exact .inr ⟨c, e, h3, h4, keep h5⟩
end Go.Proofs.Ytijbngdafgmpaaa
