/-
  slices.SortFunc over items, by their rows.
-/
import Derived.Test.YtijbngdafgmpaaaSrtL
import Derived.Test.YtijbngdafgmpaaaSrt
import Derived.Test.YtijbngdafgmpaaaReadI
namespace Go.Proofs.Ytijbngdafgmpaaa
open Go.RowKit Go.Shelf Go.Lib Go.Sort

theorem below2g (W : World) (o1 o2 : Obj) : (W.alloc o1).alloc o2 = grow (W.drewN 0) #[o1, o2] := by
  rw [alloc_eq_grow, alloc_eq_grow, grow_grow]; rfl

set_option maxHeartbeats 1000000 in
set_option maxRecDepth 100000 in
theorem byRow_any (lo hi lo' hi' : Nat) (a a' : Option Addr) (n n' cap cap' : Nat) (t t' : Int) (l l' : List Int) (w : World) (ha : RowIn lo hi w a l) (hb : RowIn lo' hi' w a' l') (hh : hi ≤ w.heap.size) (hh' : hi' ≤ w.heap.size) (hn : l.length = n) (hn' : l'.length = n') (hm : n ≤ 1048576) (hm' : n' ≤ 1048576) :
    Calls Try.prog 84 #[.agg #[.slice a n cap, .int .i64 t], .agg #[.slice a' n' cap', .int .i64 t']] w fun e w' => e = .returned (.int .i64 (cmpRow l l')) ∧ ∃ q os', w' = grow (w.drewN q) os' := by
  have HC : Hid (∀ o1 o2, Calls Try.prog 59 #[.slice a n cap, .slice a' n' cap'] ((w.alloc o1).alloc o2) fun e w' => (∃ r : Int, e = .returned (.int .i64 r) ∧ Hid (r = cmpRow l l')) ∧ (w.alloc o1).alloc o2 = w') := fun o1 o2 =>
    cmpRows_any lo hi lo' hi' a a' n n' cap cap' l l' _ (ha.below (below2 w o1 o2) hh) (hb.below (below2 w o1 o2) hh') hn hn' hm hm'
  clear ha hb hn hn'
  go_enter Try.func84, Try.ntmps84
  go_wp2_with fail
  refine (HC.out _ _).mono ?_
  rintro e w1 ⟨⟨r, rfl, HR⟩, rfl⟩
  go_wp2
  go_ret
  exact ⟨by rw [HR.out]; rfl, 0, _, below2g w _ _⟩

/-- an item as it lies: its row's slice, and that its row is its own -/
def Qt (w : World) (lo g : Nat) : Type := { q : (Option Addr × Nat) × It // q.2.1.length ≤ 1048576 ∧ RowOwn lo w.heap.size w q.1.1 q.2.1 ∧ (q.2.1 ≠ [] → ∀ c, q.1.1 = some ⟨c, 0, none⟩ → c ≠ g) }
def encQ {w : World} {lo g : Nat} (x : Qt w lo g) : List Value := [.slice x.1.1.1 x.1.2.1.length x.1.1.2, .int .i64 x.1.2.2]
def cmpQ {w : World} {lo g : Nat} (x y : Qt w lo g) : Int := cmpRow x.1.2.1 y.1.2.1
theorem ltQ {w : World} {lo g : Nat} (x y : Qt w lo g) : ltOf cmpQ x y = rowLt x.1.2.1 y.1.2.1 := rfl
theorem swoQ {w : World} {lo g : Nat} : SWO (ltOf (cmpQ (w := w) (lo := lo) (g := g))) where
  irrefl x := by rw [ltQ]; exact rowLt_irrefl _
  trans x y z h1 h2 := by rw [ltQ] at *; exact rowLt_trans h1 h2
  ntrans x y z h1 h2 := by
    rw [ltQ] at *
    rcases hv : rowLt x.1.2.1 z.1.2.1 with _ | _
    · rfl
    · exfalso
      by_cases e : x.1.2.1 = y.1.2.1
      · rw [← e, hv] at h2; cases h2
      · rw [rowLt_trans (rowLt_total e h1) hv] at h2; cases h2
theorem Qt.away {w w' : World} {lo g hi : Nat} (x : Qt w lo g) (hw : ∀ k, k < w.heap.size → k ≠ g → w'.heap[k]? = w.heap[k]?) (hh : w.heap.size ≤ hi) : RowOwn lo hi w' x.1.1.1 x.1.2.1 := by
  obtain ⟨_, h, hne⟩ := x.2
  by_cases h0 : x.1.2.1 = []
  · exact .inl h0
  · rcases h with h | ⟨c, e, h1, h2, h3⟩
    · exact absurd h h0
    · exact .inr ⟨c, e, h1, by omega, h3.of_block (hw c h2 (hne h0 c e))⟩
theorem heap_sortK {w : World} {lo g : Nat} [Inhabited (Qt w lo g)] (m : Nat) (d : Array (Qt w lo g)) (os : Array Obj) (k : Nat) (hk : k < w.heap.size) (hne : k ≠ g) : (sortWorldK encQ 2 w g 0 m d os).heap[k]? = w.heap[k]? := by
  unfold sortWorldK
  rw [heap_grow_old _ _ (by rw [size_putRowK]; exact hk)]
  simp [putRowK, putRow, mapBlock, Sort.ahead, Array.getElem?_modify, Ne.symm hne]
theorem heap_sortG {w : World} {lo g : Nat} [Inhabited (Qt w lo g)] (m : Nat) (d : Array (Qt w lo g)) (os : Array Obj) {cur : Array Value} {e : TypeId} {fr : Nat × Nat} (hb : w.heap[g]? = some (.cells cur e fr)) : ∃ cur', (sortWorldK encQ 2 w g 0 m d os).heap[g]? = some (.cells cur' e fr) := by
  have hg : g < w.heap.size := (Array.getElem?_eq_some_iff.1 hb).1
  unfold sortWorldK
  rw [heap_grow_old _ _ (by rw [size_putRowK]; exact hg)]
  exact ⟨putCells id 0 (flatK encQ 2 d) cur, by simp [putRowK, putRow, mapBlock, Sort.ahead, Array.getElem?_modify, hb, onCells]⟩

theorem ofFn_at {α : Type} [Inhabited α] {n : Nat} (F : Fin n → α) (i : Nat) (h : i < n) : (Array.ofFn F)[i]! = F ⟨i, h⟩ := by
  rw [getElem!_pos _ i (by simpa using h)]; simp

set_option maxHeartbeats 1000000 in
set_option maxRecDepth 100000 in
theorem sortItems_any (B M g cap : Nat) (L : List It) (w : World) (h : LaidO B M w (.slice (some ⟨g, 0, none⟩) L.length cap) L) (hM : M ≤ w.heap.size) (hq : ∀ i, i < L.length → (at' L i).1.length ≤ 1048576) (hn : L.length ≤ 1048576) :
    Calls Try.prog 83 #[.slice (some ⟨g, 0, none⟩) L.length cap, .func (.func 84) #[] #[]] w fun e w' => e = .returned (.tuple #[]) ∧ ∃ L', Hid (L'.Perm L ∧ (L'.Pairwise fun x y => rowLt y.1 x.1 = false) ∧ BagOwn B w'.heap.size w' (some ⟨g, 0, none⟩) L' ∧ KeptP (fun k => k = g) w w') := by
  obtain ⟨f, R, C, hown, hat⟩ := h
  have hblk := (blk_own hown).congr (g := f) fun i hi => by simp [List.getD, hi]
  obtain ⟨cur, e0, hheap, _⟩ := hblk
  have hblk := (blk_own hown).congr (g := f) fun i hi => by simp [List.getD, hi]
  have hBg : B ≤ g := (hown.lt g rfl).1
  have hgl : g < w.heap.size := hblk.lt
  letI inh : Inhabited (Qt w B g) := ⟨⟨((none, 0), ([], 0)), by simp, .inl rfl, fun h => absurd rfl h⟩⟩
  obtain ⟨d, hd, hds⟩ : ∃ d : Array (Qt w B g), (∀ i, i < L.length → (d[i]!).1 = ((R i, C i), at' L i)) ∧ d.size = L.length := by
    obtain ⟨F, hF⟩ : ∃ F : Fin L.length → Qt w B g, ∀ i, (F i).1 = ((R i, C i), at' L i) :=
      ⟨fun i => ⟨((R i, C i), at' L i), hq i i.2, (hat i i.2).2.1.wide (Nat.le_refl _) hM, fun hne c hc e => (hat i i.2).2.2.1 hne c 0 hc (by rw [e]; rfl)⟩, fun _ => rfl⟩
    exact ⟨Array.ofFn F, fun i hi => by rw [ofFn_at F i hi, hF], Array.size_ofFn⟩
  have hH : HoldsK encQ 2 w g 0 d := by
    intro j hj
    rw [size_flatK, hds] at hj
    rw [Nat.zero_add]
    refine ⟨?_, hblk.frozen j⟩
    rw [hblk.cell hj, get_flatK _ _ _ _ (by rw [hds]; exact hj)]
    have hi : j / 2 < L.length := by omega
    simp only [encQ, hd (j / 2) hi, id]
    obtain ⟨⟨e1, e2⟩, _⟩ := hat (j / 2) hi
    rcases Nat.mod_two_eq_zero_or_one j with h0 | h0
    · rw [h0]; rw [show j / 2 * 2 = j by omega] at e1; rw [e1]; rfl
    · rw [h0]; rw [show j / 2 * 2 + 1 = j by omega] at e2; rw [e2]; rfl
  have hcmp : CmpLays (α := Qt w B g) Try.prog 84 #[] encQ 2 cmpQ g 0 d.size w := by
    intro m os (dk : Array (Qt w B g)) _ (x : Qt w B g) (y : Qt w B g)
    have hsz : w.heap.size ≤ (sortWorldK encQ 2 w g 0 m dk os).heap.size := size_sortWorldK_c encQ 2 w g 0 m dk os
    have hx := (Qt.away x (w' := sortWorldK encQ 2 w g 0 m dk os) (fun k hk hne => heap_sortK m dk os k hk hne) hsz).toIn
    have hy := (Qt.away y (w' := sortWorldK encQ 2 w g 0 m dk os) (fun k hk hne => heap_sortK m dk os k hk hne) hsz).toIn
    exact byRow_any _ _ _ _ _ _ _ _ _ _ _ _ _ _ _ hx hy (Nat.le_refl _) (Nat.le_refl _) rfl rfl x.2.1 y.2.1
  have hcon := AnyQ.slices_SortFunc (α := Qt w B g) Try.sortIt 2 Try.isAgg35 Try.sizeOf35 encQ (fun _ => rfl) (fun x v hv => by simp [encQ] at hv; rcases hv with rfl | rfl <;> rfl) cmpQ swoQ 84 #[] g 0 cap d w (enters_of Try.func84 (by kernel_rfl) rfl) hcmp hH hgl (by rw [hds]; omega)
  change Calls Try.prog 83 _ _ _ at hcon
  rw [hds] at hcon
  refine hcon.mono ?_
  rintro e w' ⟨rfl, d', m, os, hp, hs, rfl⟩
  have hds' : d'.size = L.length := by rw [hp.1, hds]
  have hperm : d'.toList.Perm d.toList := by
    have h3 := hp.2.2
    rwa [show d'.extract 0 L.length = d' by rw [← hds']; simp, show d.extract 0 L.length = d by rw [← hds]; simp] at h3
  have hdl : d.toList.map (fun x => x.1.2) = L := by
    apply List.ext_getElem (by simp [hds])
    intro i h1 h2
    have h4 := hd i h2
    rw [getElem!_pos d i (by rw [hds]; exact h2)] at h4
    simp only [List.getElem_map, Array.getElem_toList, h4]
    exact at_get h2
  have hat' : ∀ i, i < L.length → at' (d'.toList.map fun x => x.1.2) i = (d'[i]!).1.2 := fun i hi => by
    rw [getElem!_pos d' i (by rw [hds']; exact hi), at_get (by simp [hds', hi])]
    simp
  refine ⟨rfl, d'.toList.map (fun x => x.1.2), ?_, ?_, ?_, ?_⟩
  · have := hperm.map (fun x => x.1.2); rwa [hdl] at this
  · rw [List.pairwise_iff_getElem]
    intro i j hi hj hij
    have h5 := hs i j (Nat.zero_le _) hij (by simpa [hds'] using hj)
    rw [ltQ, getElem!_pos d' j (by simpa using hj), getElem!_pos d' i (by simpa using hi)] at h5
    simpa using h5
  · by_cases h0 : L.length = 0
    · exact .inl (List.length_eq_zero_iff.1 (by simp [hds', h0]))
    · have hlen : (d'.toList.map fun x => x.1.2).length = L.length := by simp [hds']
      have hsz : w.heap.size ≤ (sortWorldK encQ 2 w g 0 m d' os).heap.size := size_sortWorldK_c encQ 2 w g 0 m d' os
      have hH' := holdsK_sortWorldK_c encQ 2 w g 0 d d' m os hH hgl (by rw [hds, hds'])
      obtain ⟨cur', hb'⟩ := heap_sortG m d' os hheap
      refine .inr ⟨g, rfl, hBg, Nat.lt_of_lt_of_le hgl hsz, fun j => (flatK encQ 2 d')[j]!, fun i => (d'[i]!).1.1.1, fun i => (d'[i]!).1.1.2, ⟨cur', e0, hb', fun i hi => ?_⟩, fun i hi => ?_⟩
      · rw [hlen] at hi
        have h6 := (hH' i (by rw [size_flatK, hds']; exact hi)).1
        rw [Nat.zero_add] at h6
        unfold World.cell? at h6
        rw [hb'] at h6
        simpa using h6
      · rw [hlen] at hi
        rw [hat' i hi]
        have g0 : (flatK encQ 2 d')[i * 2]! = .slice (d'[i]!).1.1.1 (d'[i]!).1.2.1.length (d'[i]!).1.1.2 := by
          rw [get_flatK _ _ _ _ (by rw [hds']; omega), show i * 2 / 2 = i by omega, show i * 2 % 2 = 0 by omega]; rfl
        have g1 : (flatK encQ 2 d')[i * 2 + 1]! = .int .i64 (d'[i]!).1.2.2 := by
          rw [get_flatK _ _ _ _ (by rw [hds']; omega), show (i * 2 + 1) / 2 = i by omega, show (i * 2 + 1) % 2 = 1 by omega]; rfl
        refine ⟨g0, g1, Qt.away (d'[i]!) (w' := sortWorldK encQ 2 w g 0 m d' os) (fun k hk hne => heap_sortK m d' os k hk hne) hsz, fun hne => ⟨fun c hc => (d'[i]!).2.2.2 hne c hc, fun j hj hnj => ?_⟩⟩
        have hpw : d.toList.Pairwise (fun x y => x.1.2.1 ≠ [] → y.1.2.1 ≠ [] → x.1.1.1 ≠ y.1.1.1) := by
          rw [List.pairwise_iff_getElem]
          intro a b ha hb hab hna hnb
          have ha' : a < L.length := by simpa [hds] using ha
          have hb'' : b < L.length := by simpa [hds] using hb
          have ea := hd a ha'
          have eb := hd b hb''
          rw [getElem!_pos d a (by rw [hds]; exact ha')] at ea
          rw [getElem!_pos d b (by rw [hds]; exact hb'')] at eb
          simp only [Array.getElem_toList] at hna hnb ⊢
          rw [ea] at hna ⊢
          rw [eb] at hnb ⊢
          exact (hat b hb'').2.2.2 hnb a hab hna
        have hpw' := (hperm.pairwise_iff (fun {x y} (h : x.1.2.1 ≠ [] → y.1.2.1 ≠ [] → x.1.1.1 ≠ y.1.1.1) => fun h1 h2 => (h h2 h1).symm)).2 hpw
        rw [List.pairwise_iff_getElem] at hpw'
        have hj' : j < L.length := by omega
        have h7 := hpw' j i (by simp [hds', hj']) (by simp [hds', hi]) hj
        rw [hat' j hj'] at hnj
        dsimp only
        rw [getElem!_pos d' j (by rw [hds']; exact hj')] at hnj ⊢
        rw [getElem!_pos d' i (by rw [hds']; exact hi)] at hne ⊢
        simp only [Array.getElem_toList] at h7
        exact h7 hnj hne
  · refine ⟨rfl, rfl, rfl, size_sortWorldK_c encQ 2 w g 0 m d' os, fun k hk hne => heap_sortK m d' os k hk hne⟩
end Go.Proofs.Ytijbngdafgmpaaa
