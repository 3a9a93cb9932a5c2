/-
  The shelf: a map that holds the rows of a bag, and where it lies.
-/
import Derived.Test.YtijbngdafgmpaaaSrt
import Derived.Test.YtijbngdafgmpaaaKey
namespace Go.Proofs.Ytijbngdafgmpaaa
open Go.RowKit Go.Maps

/-- a row as a key, with noughts behind it -/
def kx (r : List Int) : Int × Int × Int × Int := (r.getD 0 0, r.getD 1 0, r.getD 2 0, r.getD 3 0)
theorem kx_inj {r q : List Int} (h : r.length = q.length) (h4 : r.length ≤ 4) (e : kx r = kx q) : r = q := by
  unfold kx at e
  simp only [Prod.mk.injEq] at e
  obtain ⟨e0, e1, e2, e3⟩ := e
  refine ext_getD rfl h.symm fun j hj => ?_
  match j, (show j < 4 by omega) with
  | 0, _ => exact e0
  | 1, _ => exact e1
  | 2, _ => exact e2
  | 3, _ => exact e3
theorem okRow_len {r : List Int} (h : okRow r = true) : r.length ≤ 4 := by
  unfold okRow at h; simp only [Bool.and_eq_true, decide_eq_true_eq] at h; exact h.2
theorem okRow_num {r : List Int} (h : okRow r = true) (i : Nat) : 0 ≤ r.getD i 0 ∧ r.getD i 0 ≤ 99 := by
  unfold okRow okNums at h
  simp only [Bool.and_eq_true, List.all_eq_true, decide_eq_true_eq] at h
  rcases Nat.lt_or_ge i r.length with hi | hi
  · have e : r.getD i 0 = r[i] := by simp [List.getD, hi]
    rw [e]; exact h.1 _ (List.getElem_mem hi)
  · have e : r.getD i 0 = 0 := by simp [List.getD, hi]
    rw [e]; omega
theorem wf_small {x : Int} (h : 0 ≤ x ∧ x ≤ 1000000) : (Lit.int .i64 x).wf = true := by
  simp [Lit.wf, IntKind.min, IntKind.max, IntKind.signed, IntKind.bits]; omega
theorem okRow_key {r : List Int} (h : okRow r = true) : keyW (kx r) := by
  have hn := okRow_num h
  have w : ∀ i, (Lit.int .i64 (r.getD i 0)).wf = true := fun i => wf_small ⟨(hn i).1, Int.le_trans (hn i).2 (by decide)⟩
  exact ⟨w 0, w 1, w 2, w 3⟩

/-- what the map holds -/
structure MapOf (D : DataW Unit) (M : List It) : Prop where
  size : Maps.size D = M.length
  has : ∀ kl, Maps.has D kl = true ↔ ∃ x ∈ M, kl = keyL (kx x.1)
  val : ∀ x ∈ M, ∀ z, D.atKey (keyL (kx x.1)) z = .lit (.int .i64 x.2)
theorem MapOf.nil : MapOf (.map []) [] := ⟨rfl, fun kl => by simp [Maps.has], fun x hx => by simp at hx⟩
theorem keyL_eq {W : Nat} {M : List It} {r : List Int} {x : It} (hg : Good W M) (hx : x ∈ M) (hr : okRow r = true) (hw : r.length = W) (e : keyL (kx r) = keyL (kx x.1)) : x.1 = r := by
  have hx' := (okItem_split.1 (hg.oks x hx)).1
  exact (kx_inj (by rw [hw, hg.even x hx]) (okRow_len hr) (key_eq (okRow_key hr) (okRow_key hx') e)).symm
theorem MapOf.row {W : Nat} {D : DataW Unit} {M : List It} {r : List Int} (h : MapOf D M) (hg : Good W M) (hr : okRow r = true) (hw : r.length = W) : Maps.has D (keyL (kx r)) = true ↔ inB M r := by
  rw [h.has]
  constructor
  · rintro ⟨x, hx, e⟩; exact ⟨x, hx, keyL_eq hg hx hr hw e⟩
  · rintro ⟨x, hx, rfl⟩; exact ⟨x, hx, rfl⟩
theorem MapOf.at {W : Nat} {D : DataW Unit} {M : List It} {r : List Int} {c : Int} (h : MapOf D M) (hg : Good W M) (hr : okRow r = true) (hw : r.length = W) (hc : D.atKey (keyL (kx r)) (.lit (.int .i64 0)) = .lit (.int .i64 c)) : c = timesOf M r := by
  by_cases hin : inB M r
  · obtain ⟨x, hx, rfl⟩ := hin
    rw [h.val x hx] at hc
    simp at hc
    rw [← hc, timesOf_mem hg.srt hx]
  · have hn : Maps.has D (keyL (kx r)) = false := by
      rcases hv : Maps.has D (keyL (kx r)) with _ | _
      · rfl
      · exact absurd ((h.row hg hr hw).1 hv) hin
    rw [atKey_of_not_has hn] at hc
    simp at hc
    rw [← hc, timesOf_none fun x hx e => hin ⟨x, hx, e⟩]
theorem MapOf.put {W : Nat} {D : DataW Unit} {M : List It} {r : List Int} {t : Int} (h : MapOf D M) (hg : Good W M) (hw : r.length = W) (hi : okItem r t = true) (hD : Maps.Tidy D) :
    MapOf (D.put (keyL (kx r)) (.lit (.int .i64 (min (timesOf M r + t) 1000000)))) (putL r t M) := by
  have hr := (okItem_split.1 hi).1
  have hrow := h.row hg hr hw
  refine ⟨?_, fun kl => ?_, fun x hx z => ?_⟩
  · rw [size_put hD]
    by_cases hin : inB M r
    · rw [if_pos (hrow.2 hin), putL_len_in hg.srt hin, h.size]
    · rw [if_neg (fun e => hin (hrow.1 e)), putL_len_out hin, h.size]
  · by_cases e : kl = keyL (kx r)
    · subst e
      rw [has_put_same hD.isMap (by unfold keyL; trivial)]
      obtain ⟨y, hy, ey⟩ : inB (putL r t M) r := putL_in.2 (.inl rfl)
      exact ⟨fun _ => ⟨y, hy, by rw [ey]⟩, fun _ => rfl⟩
    · rw [has_put_other e, h.has]
      constructor
      · rintro ⟨x, hx, rfl⟩
        obtain ⟨y, hy, ey⟩ : inB (putL r t M) x.1 := putL_in.2 (.inr ⟨x, hx, rfl⟩)
        exact ⟨y, hy, by rw [ey]⟩
      · rintro ⟨x, hx, rfl⟩
        rcases putL_row hx with ex | hx
        · rw [ex] at e; exact absurd rfl e
        · exact ⟨x, hx, rfl⟩
  · have hs := putL_srt (r := r) (t := t) hg.srt
    by_cases ex : x.1 = r
    · have ht := timesOf_mem hs hx
      rw [ex, putL_same' hg.srt (okItem_split.1 hi).2.2] at ht
      rw [ex, atKey_put_same hD.isMap (by unfold keyL; trivial), ht]
    · rcases putL_row hx with e | hxm
      · exact absurd e ex
      · rw [atKey_put_other (fun e => ex (keyL_eq hg hxm hr hw e.symm)), h.val x hxm]
theorem MapOf.back {W : Nat} {D : DataW Unit} {M : List It} {r : List Int} {d : DataW Unit} (h : MapOf D M) (hg : Good W M) (hr : okRow r = true) (hw : r.length = W) (hD : Maps.Tidy D) (hin : ¬ inB M r) :
    MapOf ((D.put (keyL (kx r)) d).del (keyL (kx r))) M := by
  have hn : Maps.has D (keyL (kx r)) = false := by
    rcases hv : Maps.has D (keyL (kx r)) with _ | _
    · rfl
    · exact absurd ((h.row hg hr hw).1 hv) hin
  have hk : WideAt.IsKeyLit (keyL (kx r)) := by unfold keyL; trivial
  refine ⟨?_, fun kl => ?_, fun x hx z => ?_⟩
  · have h1 := size_del (k := keyL (kx r)) (hD.put hk d)
    rw [has_put_same hD.isMap hk, size_put hD, hn] at h1
    simp at h1
    rw [h1, h.size]
  · by_cases e : kl = keyL (kx r)
    · subst e
      rw [has_del_same, ← h.has, hn]
    · rw [has_del_other e, has_put_other e, h.has]
  · have e : keyL (kx x.1) ≠ keyL (kx r) := fun e => hin ⟨x, hx, keyL_eq hg hx hr hw e.symm⟩
    rw [atKey_del_other e, atKey_put_other e, h.val x hx]

/-- block mb is a map that holds M -/
def OwnM (mb : Nat) (M : List It) (w : World) : Prop := ∃ D : DataW Unit, w.ownsMap Try.prog 106 (plainElem Try.prog 3) mb M.length D ∧ MapOf D M
theorem own_tight {w : World} {mb n : Nat} {D : DataW Unit} (h : w.ownsMap Try.prog 106 (plainElem Try.prog 3) mb n D) : w.ownsMap Try.prog 106 (plainElem Try.prog 3) mb (Maps.size D) D := by
  obtain ⟨es, clock, hb, F, hs, hD⟩ := h
  refine ⟨es, clock, hb, F, ?_, hD⟩
  rw [hD]; simp [Maps.size, length_sorted]
theorem OwnM.of {w : World} {mb n : Nat} {D : DataW Unit} {M : List It} (h : w.ownsMap Try.prog 106 (plainElem Try.prog 3) mb n D) (hm : MapOf D M) : OwnM mb M w := ⟨D, by rw [← hm.size]; exact own_tight h, hm⟩
theorem OwnM.block {w w' : World} {mb : Nat} {M : List It} (h : OwnM mb M w) (hb : w'.heap[mb]? = w.heap[mb]?) : OwnM mb M w' := by
  obtain ⟨D, ⟨es, clock, hk, rest⟩, hm⟩ := h
  exact ⟨D, ⟨es, clock, by rw [hb, hk], rest⟩, hm⟩
theorem OwnM.lt {w : World} {mb : Nat} {M : List It} (h : OwnM mb M w) : mb < w.heap.size := by obtain ⟨D, h, _⟩ := h; exact h.lt

/-- a shelf that lies at p -/
structure ShelfAt (p mb W : Nat) (M : List It) (w : World) : Prop where
  box : Blk w p 2 (fun i => if i = 0 then .int .i64 (W : Nat) else .map (some mb))
  own : OwnM mb M w
  ne : p ≠ mb
theorem ShelfAt.blocks {p mb W : Nat} {M : List It} {w w' : World} (h : ShelfAt p mb W M w) (h1 : w'.heap[p]? = w.heap[p]?) (h2 : w'.heap[mb]? = w.heap[mb]?) : ShelfAt p mb W M w' := ⟨h.box.of_block h1, h.own.block h2, h.ne⟩
theorem ShelfAt.below {p mb W : Nat} {M : List It} {w w' : World} (h : ShelfAt p mb W M w) (hb : Below w.heap.size w w') : ShelfAt p mb W M w' := h.blocks (hb.block _ h.box.lt) (hb.block _ h.own.lt)
theorem ShelfAt.kept {p mb W : Nat} {M : List It} {w w' : World} {P : Nat → Prop} (h : ShelfAt p mb W M w) (hb : KeptP P w w') (h1 : ¬ P p) (h2 : ¬ P mb) : ShelfAt p mb W M w' := h.blocks (hb.block _ h.box.lt h1) (hb.block _ h.own.lt h2)
end Go.Proofs.Ytijbngdafgmpaaa
