/-
  slices.SortFunc over edges, by compareEdges.
-/
import Derived.Test.YtfeimdlkpiacoaaSrtL
import Derived.Shelf.SlSortCmp.NoneTotal
import Derived.Test.YtfeimdlkpiacoaaEdC
namespace Go.Proofs.Ytfeimdlkpiacoaa
open Go.RowKit Go.Shelf Go.Lib Go.Sort

theorem grown3 (W : World) (o1 o2 o3 : Obj) : (((W.alloc o1).alloc o2).alloc o3).drew = grow (W.drewN 1) #[o1, o2, o3] := by
  have h : ((W.alloc o1).alloc o2).alloc o3 = grow (W.drewN 0) #[o1, o2, o3] := by
    rw [alloc_eq_grow, alloc_eq_grow, alloc_eq_grow, grow_grow, grow_grow]; rfl
  rw [h]; rfl
def encE (x : Ed) : List Value := [.int .i64 x.1, .int .u8 x.2.1, .int .i64 x.2.2]
theorem ltOfE (x y : Ed) : ltOf cmpE x y = ltE x y := rfl
theorem swoE : SWO (ltOf cmpE) where
  irrefl x := by rw [ltOfE]; exact ltE_irrefl x
  trans x y z h1 h2 := by rw [ltOfE] at *; exact ltE_trans h1 h2
  ntrans x y z h1 h2 := by
    rw [ltOfE] at *
    rcases hv : ltE x z with _ | _
    · rfl
    · exfalso
      by_cases e : x = y
      · rw [← e, hv] at h2; cases h2
      · rw [ltE_trans (ltE_total e h1) hv] at h2; cases h2
theorem heap_sortE {w : World} {g : Nat} (m : Nat) (d : Array Ed) (os : Array Obj) (k : Nat) (hk : k < w.heap.size) (hne : k ≠ g) : (sortWorldK encE 3 w g 0 m d os).heap[k]? = w.heap[k]? := by
  unfold sortWorldK
  rw [heap_grow_old _ _ (by rw [size_putRowK]; exact hk)]
  simp [putRowK, putRow, mapBlock, Sort.ahead, Array.getElem?_modify, Ne.symm hne]
theorem heap_sortEG {w : World} {g : Nat} (m : Nat) (d : Array Ed) (os : Array Obj) {cur : Array Value} {e : TypeId} {fr : Nat × Nat} (hb : w.heap[g]? = some (.cells cur e fr)) : ∃ cur', (sortWorldK encE 3 w g 0 m d os).heap[g]? = some (.cells cur' e fr) := by
  have hg : g < w.heap.size := (Array.getElem?_eq_some_iff.1 hb).1
  unfold sortWorldK
  rw [heap_grow_old _ _ (by rw [size_putRowK]; exact hg)]
  exact ⟨putCells id 0 (flatK encE 3 d) cur, by simp [putRowK, putRow, mapBlock, Sort.ahead, Array.getElem?_modify, hb, onCells]⟩
theorem encE_at (x : Ed) (j : Nat) (h : j < 3) : (encE x)[j]! = if j = 0 then .int .i64 x.1 else if j = 1 then .int .u8 x.2.1 else .int .i64 x.2.2 := by
  rcases (show j = 0 ∨ j = 1 ∨ j = 2 by omega) with rfl | rfl | rfl <;> rfl

set_option maxHeartbeats 1000000 in
set_option maxRecDepth 100000 in
theorem sortEdges_any (g cap : Nat) (L : List Ed) (w : World) (hblk : EBlk w g L) (hn : L.length ≤ 1048576) :
    Calls Try.prog 41 #[.slice (some ⟨g, 0, none⟩) L.length cap, .func (.func 42) #[] #[]] w fun e w' => e = .returned (.tuple #[]) ∧ ∃ L' : List Ed, Hid (L'.Perm L ∧ (L'.Pairwise fun x y => ltE y x = false) ∧ EBlk w' g L' ∧ KeptP (fun k => k = g) w w') := by
  have hblk' := hblk
  obtain ⟨cur, e0, hheap, _⟩ := hblk'
  have hgl : g < w.heap.size := Blk.lt hblk
  have hflat : ∀ (d : Array Ed) (j : Nat), j < d.size * 3 → (flatK encE 3 d)[j]! = ef d.toList j := by
    intro d j hj
    rw [get_flatK _ _ _ _ hj, encE_at _ _ (by omega)]
    have hd : d[j / 3]! = eat d.toList (j / 3) := by
      rw [getElem!_pos d (j / 3) (by omega), eat_get (by simp; omega)]; simp
    rw [hd]
    unfold ef
    rfl
  have hH : HoldsK encE 3 w g 0 L.toArray := by
    intro j hj
    rw [size_flatK] at hj
    have hj' : j < L.length * 3 := by simpa using hj
    rw [Nat.zero_add]
    refine ⟨?_, Blk.frozen hblk j⟩
    rw [Blk.cell hblk hj', hflat _ _ hj]; rfl
  have hcmp : CmpLays (α := Ed) Try.prog 42 #[] encE 3 cmpE g 0 L.toArray.size w := by
    intro m os dk _ x y
    refine (compareEdges_at x y _).mono ?_
    rintro e w' ⟨r, o1, o2, o3, rfl, h2, h3⟩
    obtain rfl := h2.out
    obtain rfl := h3.out
    exact ⟨rfl, 1, #[o1, o2, o3], grown3 _ _ _ _⟩
  have hcon := AnyQ.slices_SortFunc (α := Ed) Try.sortIt 3 Try.isAgg37 Try.sizeOf37 encE (fun _ => rfl) (fun x v hv => by simp [encE] at hv; rcases hv with rfl | rfl | rfl <;> rfl) cmpE swoE 42 #[] g 0 cap L.toArray w (enters_of Try.func42 (by kernel_rfl) rfl) hcmp hH hgl (by simp; omega)
  change Calls Try.prog 41 _ _ _ at hcon
  rw [show L.toArray.size = L.length from rfl] at hcon
  refine hcon.mono ?_
  rintro e w' ⟨rfl, d', m, os, hp, hs, rfl⟩
  have hds' : d'.size = L.length := by rw [hp.1]; rfl
  have hperm : d'.toList.Perm L := by
    have h3 := hp.2.2
    rwa [show d'.extract 0 L.length = d' by rw [← hds']; simp, show L.toArray.extract 0 L.length = L.toArray by rw [show L.length = L.toArray.size from rfl]; simp] at h3
  refine ⟨rfl, d'.toList, hperm, ?_, ?_, ?_⟩
  · rw [List.pairwise_iff_getElem]
    intro i j hi hj hij
    have h5 := hs i j (Nat.zero_le _) hij (by simpa [hds'] using hj)
    rw [ltOfE, getElem!_pos d' j (by simpa using hj), getElem!_pos d' i (by simpa using hi)] at h5
    simpa using h5
  · have hH' := holdsK_sortWorldK_c encE 3 w g 0 L.toArray d' m os hH hgl (by rw [hds']; rfl)
    obtain ⟨cur', hb'⟩ := heap_sortEG m d' os hheap
    refine ⟨cur', e0, hb', fun i hi => ?_⟩
    have hi' : i < d'.size * 3 := by simpa using hi
    have h6 := (hH' i (by rw [size_flatK]; exact hi')).1
    rw [Nat.zero_add, hflat _ _ hi'] at h6
    unfold World.cell? at h6
    rw [hb'] at h6
    simpa using h6
  · exact ⟨rfl, rfl, rfl, size_sortWorldK_c encE 3 w g 0 m d' os, fun k hk hne => heap_sortE m d' os k hk hne⟩
theorem sortNone_any (p : Option Addr) (cap : Nat) (fv : Value) (w : World) : Calls Try.prog 41 #[.slice p 0 cap, fv] w fun e w' => e = .returned (.tuple #[]) ∧ w' = w :=
  AnyF.slices_SortFunc_none Try.sortIt p cap fv w
/-- over edges that are owned, or none -/
theorem sortOwn_any (lo hi n cap : Nat) (a : Option Addr) (L : List Ed) (w : World) (ho : EdgesOwn lo hi w a L) (hh : hi ≤ w.heap.size) (hl : L.length = n) (hn : n ≤ 1048576) :
    Calls Try.prog 41 #[.slice a n cap, .func (.func 42) #[] #[]] w fun e w' => e = .returned (.tuple #[]) ∧ ∃ L' : List Ed, Hid (L'.Perm L ∧ (L'.Pairwise fun x y => ltE y x = false)) ∧ Hid (EdgesOwn lo hi w' a L') ∧ Hid (KeptP (fun k => lo ≤ k ∧ k < hi) w w') := by
  subst hl
  rcases ho with rfl | ⟨b, rfl, h1, h2, h3⟩
  · refine (sortNone_any a cap _ w).mono ?_
    rintro e w' ⟨rfl, rfl⟩
    exact ⟨rfl, [], ⟨List.Perm.refl _, List.Pairwise.nil⟩, .inl rfl, KeptP.refl _ _⟩
  · refine (sortEdges_any b cap L w h3 hn).mono ?_
    rintro e w' ⟨rfl, L', h⟩
    obtain ⟨g1, g2, g3, g4⟩ := h.out
    exact ⟨rfl, L', ⟨g1, g2⟩, .inr ⟨b, rfl, h1, h2, g3⟩, g4.mono (fun k hk => by rw [hk]; exact ⟨h1, h2⟩)⟩
end Go.Proofs.Ytfeimdlkpiacoaa
