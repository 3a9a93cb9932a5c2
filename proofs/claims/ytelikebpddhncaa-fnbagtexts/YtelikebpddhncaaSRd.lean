/-
  How the model reads a bag, in plain mathematics: it reads what the program reads. What its walk keeps at hand.
-/
import Derived.Test.YtelikebpddhncaaReadI
import Derived.Test.YtelikebpddhncaaTxtS
import Derived.Test.YtelikebpddhncaaDRow
namespace Go.Proofs.Ytelikebpddhncaa
open Go.RowKit sp

def sNums : Nat → St → List Int × St
  | 0, st => ([], st)
  | _ + 1, none => ([], none)
  | m + 1, some r => (((rn (some r) 1000000000).1 : Int) :: (sNums m (rn (some r) 1000000000).2).1, (sNums m (rn (some r) 1000000000).2).2)
def sItem (st : St) : It × St :=
  (((sNums (min (rn st 1000000000).1 10) (rn st 1000000000).2).1, ((rn (sNums (min (rn st 1000000000).1 10) (rn st 1000000000).2).2 1000000000).1 : Int)), (rn (sNums (min (rn st 1000000000).1 10) (rn st 1000000000).2).2 1000000000).2)
def sItems : Nat → St → List It × St
  | 0, st => ([], st)
  | _ + 1, none => ([], none)
  | m + 1, some r => ((sItem (some r)).1 :: (sItems m (sItem (some r)).2).1, (sItems m (sItem (some r)).2).2)
def specRead (s : List UInt8) : List It × Bool :=
  let y := sItems (min (rn (some s) 1000000000).1 310) (rn (some s) 1000000000).2
  (y.1, decide (y.2 ≠ none) && okBag y.1 && decide (txtTo y.1 y.1.length = s))

theorem sNums_none (m : Nat) : sNums m none = ([], none) := by cases m <;> rfl
theorem sItems_none (m : Nat) : sItems m none = ([], none) := by cases m <;> rfl
theorem sNums_zero (st : St) : sNums 0 st = ([], st) := by cases st <;> rfl
theorem sItems_zero (st : St) : sItems 0 st = ([], st) := by cases st <;> rfl
theorem sNums_succ (m : Nat) {st : St} (h : st ≠ none) : sNums (m + 1) st = (((rn st 1000000000).1 : Int) :: (sNums m (rn st 1000000000).2).1, (sNums m (rn st 1000000000).2).2) := by
  cases st with
  | none => exact absurd rfl h
  | some r => rfl
theorem sItems_succ (m : Nat) {st : St} (h : st ≠ none) : sItems (m + 1) st = ((sItem st).1 :: (sItems m (sItem st).2).1, (sItems m (sItem st).2).2) := by
  cases st with
  | none => exact absurd rfl h
  | some r => rfl
theorem rn_back {most n : Nat} {r' : List UInt8} (hm : most ≤ 1000000000) (h : n ≤ most) : rn (some (varB 9 n ++ r')) most = (n, some r') := (rn_iff hm).2 ⟨h, rfl⟩
theorem sNums_back (l : List Int) (hl : ∀ x ∈ l, 0 ≤ x ∧ x ≤ 99) (r' : List UInt8) : sNums l.length (some (vt l ++ r')) = (l, some r') := by
  induction l with
  | nil => simp [sNums, vt]
  | cons x xs ih =>
    obtain ⟨n, rfl⟩ := Int.eq_ofNat_of_zero_le (hl x (by simp)).1
    have hn := (hl _ (List.mem_cons_self ..)).2
    have e2 : vt ((n : Int) :: xs) ++ r' = varB 9 n ++ (vt xs ++ r') := by simp [vt, vb]
    rw [e2, List.length_cons, sNums_succ _ (by simp), rn_back (by omega) (by omega)]
    simp only []
    rw [ih (fun y hy => hl y (List.mem_cons_of_mem _ hy))]
theorem sItem_back {x : It} (hx : okItem x.1 x.2 = true) (r' : List UInt8) : sItem (some (itemTxt x ++ r')) = (x, some r') := by
  have h1 := okItem_row hx
  have h2 := okItem_times hx
  obtain ⟨t, ht⟩ := Int.eq_ofNat_of_zero_le (show 0 ≤ x.2 by omega)
  have e0 : itemTxt x ++ r' = varB 9 x.1.length ++ (vt x.1 ++ (varB 9 t ++ r')) := by unfold itemTxt; rw [vb_nat, ht, vb_nat]; simp
  have a2 : sNums x.1.length (some (vt x.1 ++ (varB 9 t ++ r'))) = (x.1, some (varB 9 t ++ r')) := sNums_back x.1 (fun y hy => by
    obtain ⟨i, hi, rfl⟩ := List.getElem_of_mem hy
    have := h1.2 i hi
    simpa [List.getD, hi] using this) _
  unfold sItem
  rw [e0, rn_back (by omega) (by omega)]
  simp only []
  rw [show min x.1.length 10 = x.1.length by omega, a2]
  simp only []
  rw [rn_back (by omega) (by omega), ← ht]
theorem sItems_back (l : List It) (hl : ∀ x ∈ l, okItem x.1 x.2 = true) (r' : List UInt8) : sItems l.length (some (l.flatMap itemTxt ++ r')) = (l, some r') := by
  induction l with
  | nil => simp [sItems]
  | cons x xs ih =>
    rw [List.flatMap_cons, List.append_assoc, List.length_cons, sItems_succ _ (by simp), sItem_back (hl x (List.mem_cons_self ..))]
    simp only []
    rw [ih (fun y hy => hl y (List.mem_cons_of_mem _ hy))]
theorem specRead_back {l : List It} (h : okBag l = true) : specRead (txtTo l l.length) = (l, true) := by
  have h3 := okBag_len h
  have a1 : rn (some (txtTo l l.length)) 1000000000 = (l.length, some (l.flatMap itemTxt)) := by rw [txt_all]; exact rn_back (by omega) (by omega)
  have a2 : sItems l.length (some (l.flatMap itemTxt)) = (l, some []) := by have := sItems_back l (ok_items h) []; rwa [List.append_nil] at this
  unfold specRead
  rw [a1]
  simp only []
  rw [show min l.length 310 = l.length by omega, a2]
  simp [h]
/-- both read the same -/
theorem specRead_yes {s : List UInt8} (h : (specRead s).2 = true) : implRead s = ((specRead s).1, true) := by
  simp only [specRead, Bool.and_eq_true, decide_eq_true_eq] at h ⊢
  obtain ⟨⟨_, h2⟩, h3⟩ := h
  have := implRead_back h2
  rwa [h3] at this
theorem specRead_no {s : List UInt8} (h : (specRead s).2 = false) : (implRead s).2 = false := by
  rcases hv : (implRead s).2 with _ | _
  · rfl
  · obtain ⟨h1, h2⟩ := implRead_yes hv
    have h3 := specRead_back h1
    rw [← h2] at h3
    rw [h3] at h; cases h

theorem RdAt.flag {T : TypeId} {c : Nat} {s : ByteArray} {st : St} {w : World} (h : RdAt T c s st w) : w.cell? ⟨c, 2, none⟩ = some (.bool st.isNone) := by
  obtain ⟨p, f, hb, _, rfl⟩ := h
  rw [Lib.cell_of_heap hb]
  cases f <;> rfl

/-- what the walk keeps at hand -/
structure SOut (B M : Nat) (w wi : World) (s : ByteArray) (st : St) (v : Value) (L : List It) : Prop where
  rd : RdAt 90 (B + 1) s st wi
  bv : Blk wi (B + 1 + 1) 1 (fun _ => v)
  laid : LaidO (B + 1 + 1 + 1) M wi v L
  res : Blk wi B 1 (fun _ => .slice none 0 0)
  bel : Below B w wi
  low : B + 1 + 1 + 1 ≤ M
  size : M ≤ wi.heap.size
  vlt : ∀ k, v.ownBlock = some k → k < M
theorem LaidO.upto {B M : Nat} {w w' : World} {v : Value} {l : List It} (h : LaidO B M w v l) (hv : ∀ k, v.ownBlock = some k → k < M) (hb : ∀ k, B ≤ k → k < M → w'.heap[k]? = w.heap[k]?) : LaidO B M w' v l := by
  obtain ⟨f, R, C, h1, h2⟩ := h
  refine ⟨f, R, C, ?_, fun i hi => ⟨(h2 i hi).1, ?_, (h2 i hi).2.2⟩⟩
  · refine ⟨h1.1, ?_⟩
    rcases h1.2 with h3 | ⟨g, cap, cur, rfl, h3, h4, h5⟩
    · exact .inl h3
    · exact .inr ⟨g, cap, cur, rfl, h3, by rw [hb g h3 (hv g rfl)]; exact h4, h5⟩
  · rcases (h2 i hi).2.1 with h3 | ⟨c, e, h3, h4, h5⟩
    · exact .inl h3
    · exact .inr ⟨c, e, h3, h4, h5.of_block (hb c h3 h4)⟩
theorem owns_kept {B e s n : Nat} {w w' : World} {v : Value} {xs : List Value} (ho : w.ownsRow B e s v n xs) (hb : ∀ k, B ≤ k → k < w.heap.size → w'.heap[k]? = w.heap[k]?) : w'.ownsRow B e s v n xs := by
  refine ⟨ho.1, ?_⟩
  rcases ho.2 with hn | ⟨g, cap, cur, rfl, hg, hh, r⟩
  · exact .inl hn
  · exact .inr ⟨g, cap, cur, rfl, hg, by rw [hb g hg (Array.getElem?_eq_some_iff.1 hh).1]; exact hh, r⟩
theorem SOut.over {B M : Nat} {w wi w' : World} {s : ByteArray} {st : St} {v : Value} {L : List It} (h : SOut B M w wi s st v L) (hb : Below M wi w') : SOut B M w w' s st v L :=
  have hl := h.low
  ⟨h.rd.below hb (by omega), h.bv.of_block (hb.block _ (by omega)), h.laid.upto h.vlt (fun k _ hk => hb.block k hk), h.res.of_block (hb.block _ (by omega)), h.bel.trans (hb.mono (by omega)), h.low, Nat.le_trans h.size hb.size, h.vlt⟩
theorem SOut.num {B M : Nat} {w wi w' : World} {s : ByteArray} {st st' : St} {v : Value} {L : List It} (h : SOut B M w wi s st v L) (hk : KeptBut (B + 1) wi w') (hr : RdAt 90 (B + 1) s st' w') : SOut B M w w' s st' v L :=
  have hl := h.low
  have hs := h.size
  ⟨hr, blk_but h.bv hk (by omega), h.laid.upto h.vlt (fun k _ _ => hk.block k (by omega) (by omega)), blk_but h.res hk (by omega), h.bel.trans (hk.to_below (by omega) (by omega)), h.low, Nat.le_trans h.size hk.size, h.vlt⟩
/-- with an item at X whose row is being read -/
structure SIn (B X : Nat) (w wi : World) (s : ByteArray) (st : St) (v : Value) (L : List It) (vr : Value) (j : Nat) (l : List Int) : Prop where
  out : SOut B X w wi s st v L
  x : Blk wi X 2 (fun i => if i = 0 then vr else .int .i64 0)
  own : wi.ownsRow (X + 1) 3 1 vr j (rowCells l)
  len : l.length = j
theorem SIn.num {B X : Nat} {w wi w' : World} {s : ByteArray} {st st' : St} {v vr : Value} {L : List It} {j : Nat} {l : List Int} (h : SIn B X w wi s st v L vr j l) (hk : KeptBut (B + 1) wi w') (hr : RdAt 90 (B + 1) s st' w') : SIn B X w w' s st' v L vr j l :=
  have hl := h.out.low
  ⟨h.out.num hk hr, blk_but h.x hk (by omega), owns_kept h.own (fun k h1 h2 => hk.block k h2 (by omega)), h.len⟩
theorem SIn.drew {B X : Nat} {w wi : World} {s : ByteArray} {st : St} {v vr : Value} {L : List It} {j : Nat} {l : List Int} (h : SIn B X w wi s st v L vr j l) : SIn B X w wi.drew s st v L vr j l :=
  ⟨h.out.over (Below.refl _ _).drew, h.x, h.own, h.len⟩
theorem SIn.push {B X : Nat} {w w4 w5 : World} {s : ByteArray} {st : St} {v vr v' : Value} {L : List It} {j : Nat} {l : List Int} {t : Int} (h : SIn B X w w4 s st v L vr j l) {o : Obj} (hg : (w4.alloc o).grownBy w5 vr.ownBlock) (ho : w5.ownsRow (X + 1) 3 1 v' (j + 1) (rowCells l ++ [.int .i64 t])) :
    SIn B X w (w5.setCell ⟨X, 0, none⟩ v') s st v L v' (j + 1) (l ++ [t]) := by
  have hX := h.x.lt
  have hb1 : Below (X + 1) w4 (w4.alloc o) := (Below.refl _ _).alloc (by omega) _
  have hb2 : Below (X + 1) w4 w5 := hb1.grown hg (by simp; omega) (fun k hk => (h.own.lt k hk).1)
  refine ⟨h.out.over ((hb2.mono (Nat.le_succ _)).setCell (by simp) _), ?_, owns_kept (xs := rowCells (l ++ [t])) (by simpa [rowCells] using ho) (fun k h1 _ => Below.heap_setCell _ _ _ _ (by simp; omega)), by rw [List.length_append, h.len]; rfl⟩
  exact ((h.x.of_block (hb2.block X (by omega))).set 0 (by omega) _).congr (fun i _ => by by_cases e : i = 0 <;> simp [e])
/-- an item more -/
theorem SOut.push {B X : Nat} {w w8 w9 : World} {s : ByteArray} {st : St} {v v' : Value} {L : List It} {x : It} {f : Nat → Value} {R : Nat → Option Addr} {C : Nat → Nat} {ra : Option Addr} {rc : Nat} (h : SOut B X w w8 s st v L)
    (h2 : ∀ i, i < L.length → (f (i * 2) = .slice (R i) (at' L i).1.length (C i) ∧ f (i * 2 + 1) = .int .i64 (at' L i).2) ∧ RowOwn (B + 1 + 1 + 1) X w8 (R i) (at' L i).1 ∧ Off v (R i) (at' L i).1 ∧ ((at' L i).1 ≠ [] → ∀ j, j < i → (at' L j).1 ≠ [] → R j ≠ R i))
    (hr : RowOwn X w8.heap.size w8 ra x.1) (hg : w8.grownBy w9 v.ownBlock) (hloc : v'.ownBlock = v.ownBlock ∨ v'.ownBlock = some w8.heap.size)
    (ho : w9.ownsRow (B + 1 + 1 + 1) 77 2 v' (L.length + 1) ((List.range (L.length * 2)).map f ++ [.slice ra x.1.length rc, .int .i64 x.2])) : SOut B w9.heap.size w (w9.setCell ⟨B + 1 + 1, 0, none⟩ v') s st v' (L ++ [x]) := by
  have hl := h.low
  have hs := h.size
  have hb : Below (B + 1 + 1 + 1) w8 w9 := (Below.refl _ _).grown hg (by omega) (fun k hk => by
    obtain ⟨f', R', C', h1, _⟩ := h.laid
    exact (h1.lt k hk).1)
  have hz := hb.size
  have hd : LaidO (B + 1 + 1 + 1) w8.heap.size w9 v' (L ++ [x]) := LaidO.snoc (M := X) (M' := w8.heap.size) h2 hr (fun hne c o e hc => by
    rcases hr with h3 | ⟨c', e', h3, _, _⟩
    · exact hne h3
    · rw [e] at e'
      simp only [Option.some.injEq, Addr.mk.injEq] at e'
      have := h.vlt c hc
      omega) hl hs (Nat.le_refl _) hg hloc ho
  have hvlt : ∀ k, v'.ownBlock = some k → k < w9.heap.size := fun k hk => (ho.lt k hk).2
  refine ⟨?_, ?_, ?_, ?_, ?_, by omega, by simp, hvlt⟩
  · obtain ⟨p, f, h1, h2⟩ := h.rd.below hb (by omega)
    exact ⟨p, f, by rw [Below.heap_setCell _ _ _ _ (by simp)]; exact h1, h2⟩
  · exact ((h.bv.of_block (hb.block _ (by omega))).set 0 (by omega) _).congr (fun i hi => by simp [show i = 0 by omega])
  · exact (hd.wide hz).upto hvlt (fun k h1 _ => Below.heap_setCell _ _ _ _ (by simp; omega))
  · exact (h.res.of_block (hb.block _ (by omega))).of_block (Below.heap_setCell _ _ _ _ (by simp; omega))
  · exact (h.bel.trans (hb.mono (by omega))).setCell (by simp; omega) _
end Go.Proofs.Ytelikebpddhncaa
