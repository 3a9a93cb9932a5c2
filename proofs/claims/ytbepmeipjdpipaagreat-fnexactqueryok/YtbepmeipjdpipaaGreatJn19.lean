import Derived.Test.YtbepmeipjdpipaaGreatJn18
import Derived.Shelf.SlSortCmp.NoneTotal
import Derived.Test.YtbepmeipjdpipaaGreatJn05
import Derived.Test.YtbepmeipjdpipaaGreatJn17
import Derived.Test.YtbepmeipjdpipaaGreatJn03
import Derived.Test.YtbepmeipjdpipaaGreatJn04
namespace Go.Proofs.YtbepmeipjdpipaaGreat
open Go.RowKit Go.Shelf Go.Lib Go.Sort

theorem grown5 (W : World) (o1 o2 o3 o4 o5 : Obj) : (((((W.alloc o1).alloc o2).alloc o3).alloc o4).alloc o5).drew = grow (W.drewN 1) #[o1, o2, o3, o4, o5] := by
  have h : ((((W.alloc o1).alloc o2).alloc o3).alloc o4).alloc o5 = grow (W.drewN 0) #[o1, o2, o3, o4, o5] := by
    rw [alloc_eq_grow, alloc_eq_grow, alloc_eq_grow, alloc_eq_grow, alloc_eq_grow, grow_grow, grow_grow, grow_grow, grow_grow]; rfl
  rw [h]; rfl
set_option maxHeartbeats 1000000 in
theorem compareArcs_at (x y : Ed) (w : World) :
    Calls Tryz.prog 84 #[ev x, ev y] w fun e w' => ∃ (r : Int) (o1 o2 o3 o4 o5 : Obj), e = .returned (.int .i64 r) ∧ Hid (r = cmpE x y) ∧ Hid (w' = (((((w.alloc o1).alloc o2).alloc o3).alloc o4).alloc o5).drew) := by
  obtain ⟨x0, x1, x2⟩ := x
  obtain ⟨y0, y1, y2⟩ := y
  have HC : Hid (∀ w0, Calls Tryz.prog 94 #[ev (x0, x1, x2), ev (y0, y1, y2)] w0 fun e w' => ∃ (r : Int) (o1 o2 o3 : Obj), e = .returned (.int .i64 r) ∧ Hid (r = cmpE (x0, x1, x2) (y0, y1, y2)) ∧ Hid (w' = (((w0.alloc o1).alloc o2).alloc o3).drew)) := fun w0 => compareEdges_at _ _ w0
  go_enter Tryz.func84, Tryz.ntmps84
  go_wp2_with fail
  refine (HC.out _).mono ?_
  rintro e w1 ⟨r, o3, o4, o5, rfl, HR, HW⟩
  go_wp2
  go_ret
  exact ⟨r, _, _, o3, o4, o5, rfl, HR, HW⟩
def encA (x : Ed) : List Value := [.int .i64 x.1, .int .u8 x.2.1, .int .i64 x.2.2]
theorem ltOfA (x y : Ed) : ltOf cmpE x y = ltE x y := rfl
theorem swoA : SWO (ltOf cmpE) where
  irrefl x := by rw [ltOfA]; exact ltE_irrefl x
  trans x y z h1 h2 := by rw [ltOfA] at *; exact ltE_trans h1 h2
  ntrans x y z h1 h2 := by
    rw [ltOfA] at *
    rcases hv : ltE x z with _ | _
    · rfl
    · exfalso
      by_cases e : x = y
      · rw [← e, hv] at h2; cases h2
      · rw [ltE_trans (ltE_total e h1) hv] at h2; cases h2
theorem heap_sortA {w : World} {g : Nat} (m : Nat) (d : Array Ed) (os : Array Obj) (k : Nat) (hk : k < w.heap.size) (hne : k ≠ g) : (sortWorldK encA 3 w g 0 m d os).heap[k]? = w.heap[k]? := by
  unfold sortWorldK
  rw [heap_grow_old _ _ (by rw [size_putRowK]; exact hk)]
  simp [putRowK, putRow, mapBlock, Sort.ahead, Array.getElem?_modify, Ne.symm hne]
theorem heap_sortAG {w : World} {g : Nat} (m : Nat) (d : Array Ed) (os : Array Obj) {cur : Array Value} {e : TypeId} {fr : Nat × Nat} (hb : w.heap[g]? = some (.cells cur e fr)) : ∃ cur', (sortWorldK encA 3 w g 0 m d os).heap[g]? = some (.cells cur' e fr) := by
  have hg : g < w.heap.size := (Array.getElem?_eq_some_iff.1 hb).1
  unfold sortWorldK
  rw [heap_grow_old _ _ (by rw [size_putRowK]; exact hg)]
  exact ⟨putCells id 0 (flatK encA 3 d) cur, by simp [putRowK, putRow, mapBlock, Sort.ahead, Array.getElem?_modify, hb, onCells]⟩
theorem encA_at (x : Ed) (j : Nat) (h : j < 3) : (encA x)[j]! = if j = 0 then .int .i64 x.1 else if j = 1 then .int .u8 x.2.1 else .int .i64 x.2.2 := by
  rcases (show j = 0 ∨ j = 1 ∨ j = 2 by omega) with rfl | rfl | rfl <;> rfl

set_option maxHeartbeats 1000000 in
set_option maxRecDepth 100000 in
theorem sortArcs_any (g cap : Nat) (L : List Ed) (w : World) (hblk : EBlk w g L) (hn : L.length ≤ 1048576) :
    Calls Tryz.prog 83 #[.slice (some ⟨g, 0, none⟩) L.length cap, .func (.func 84) #[] #[]] w fun e w' => e = .returned (.tuple #[]) ∧ ∃ L' : List Ed, Hid (L'.Perm L ∧ (L'.Pairwise fun x y => ltE y x = false) ∧ EBlk w' g L' ∧ KeptP (fun k => k = g) w w') := by
  have hblk' := hblk
  obtain ⟨cur, e0, hheap, _⟩ := hblk'
  have hgl : g < w.heap.size := Blk.lt hblk
  have hflat : ∀ (d : Array Ed) (j : Nat), j < d.size * 3 → (flatK encA 3 d)[j]! = ef d.toList j := by
    intro d j hj
    rw [get_flatK _ _ _ _ hj, encA_at _ _ (by omega)]
    have hd : d[j / 3]! = eat d.toList (j / 3) := by
      rw [getElem!_pos d (j / 3) (by omega), eat_get (by simp; omega)]; simp
    rw [hd]
    unfold ef
    rfl
  have hH : HoldsK encA 3 w g 0 L.toArray := by
    intro j hj
    rw [size_flatK] at hj
    have hj' : j < L.length * 3 := by simpa using hj
    rw [Nat.zero_add]
    refine ⟨?_, Blk.frozen hblk j⟩
    rw [Blk.cell hblk hj', hflat _ _ hj]; rfl
  have hcmp : CmpLays (α := Ed) Tryz.prog 84 #[] encA 3 cmpE g 0 L.toArray.size w := by
    intro m os dk _ x y
    refine (compareArcs_at x y _).mono ?_
    rintro e w' ⟨r, o1, o2, o3, o4, o5, rfl, h2, h3⟩
    obtain rfl := h2.out
    obtain rfl := h3.out
    exact ⟨rfl, 1, #[o1, o2, o3, o4, o5], grown5 _ _ _ _ _ _⟩
  have hcon := AnyQ.slices_SortFunc (α := Ed) Tryz.sortItA 3 Tryz.isAgg130 Tryz.sizeOf130 encA (fun _ => rfl) (fun x v hv => by simp [encA] at hv; rcases hv with rfl | rfl | rfl <;> rfl) cmpE swoA 84 #[] g 0 cap L.toArray w (enters_of Tryz.func84 (by kernel_rfl) rfl) hcmp hH hgl (by simp; omega)
  change Calls Tryz.prog 83 _ _ _ at hcon
  rw [show L.toArray.size = L.length from rfl] at hcon
  refine hcon.mono ?_
  rintro e w' ⟨rfl, d', m, os, hp, hs, rfl⟩
  have hds' : d'.size = L.length := by rw [hp.1]; rfl
  have hperm : d'.toList.Perm L := by
    have h3 := hp.2.2
    rwa [show d'.extract 0 L.length = d' by rw [← hds']; simp, show L.toArray.extract 0 L.length = L.toArray by rw [show L.length = L.toArray.size from rfl]; simp] at h3
  refine ⟨rfl, d'.toList, hperm, ?_, ?_, ?_⟩
  · rw [List.pairwise_iff_getElem]
    intro i j hi hj hij
    have h5 := hs i j (Nat.zero_le _) hij (by simpa [hds'] using hj)
    rw [ltOfA, getElem!_pos d' j (by simpa using hj), getElem!_pos d' i (by simpa using hi)] at h5
    simpa using h5
  · have hH' := holdsK_sortWorldK_c encA 3 w g 0 L.toArray d' m os hH hgl (by rw [hds']; rfl)
    obtain ⟨cur', hb'⟩ := heap_sortAG m d' os hheap
    refine ⟨cur', e0, hb', fun i hi => ?_⟩
    have hi' : i < d'.size * 3 := by simpa using hi
    have h6 := (hH' i (by rw [size_flatK]; exact hi')).1
    rw [Nat.zero_add, hflat _ _ hi'] at h6
    unfold World.cell? at h6
    rw [hb'] at h6
    simpa using h6
  · exact ⟨rfl, rfl, rfl, size_sortWorldK_c encA 3 w g 0 m d' os, fun k hk hne => heap_sortA m d' os k hk hne⟩
theorem sortNoneA_any (p : Option Addr) (cap : Nat) (fv : Value) (w : World) : Calls Tryz.prog 83 #[.slice p 0 cap, fv] w fun e w' => e = .returned (.tuple #[]) ∧ w' = w :=
  AnyF.slices_SortFunc_none Tryz.sortItA p cap fv w
theorem sortOwnA_any (lo hi n cap : Nat) (a : Option Addr) (L : List Ed) (w : World) (ho : EdgesOwn lo hi w a L) (hh : hi ≤ w.heap.size) (hl : L.length = n) (hn : n ≤ 1048576) :
    Calls Tryz.prog 83 #[.slice a n cap, .func (.func 84) #[] #[]] w fun e w' => e = .returned (.tuple #[]) ∧ ∃ L' : List Ed, Hid (L'.Perm L ∧ (L'.Pairwise fun x y => ltE y x = false)) ∧ Hid (EdgesOwn lo hi w' a L') ∧ Hid (KeptP (fun k => lo ≤ k ∧ k < hi) w w') := by
  subst hl
  rcases ho with rfl | ⟨b, rfl, h1, h2, h3⟩
  · refine (sortNoneA_any a cap _ w).mono ?_
    rintro e w' ⟨rfl, rfl⟩
    exact ⟨rfl, [], ⟨List.Perm.refl _, List.Pairwise.nil⟩, .inl rfl, KeptP.refl _ _⟩
  · refine (sortArcs_any b cap L w h3 hn).mono ?_
    rintro e w' ⟨rfl, L', h⟩
    obtain ⟨g1, g2, g3, g4⟩ := h.out
    exact ⟨rfl, L', ⟨g1, g2⟩, .inr ⟨b, rfl, h1, h2, g3⟩, g4.mono (fun k hk => by rw [hk]; exact ⟨h1, h2⟩)⟩
end Go.Proofs.YtbepmeipjdpipaaGreat

namespace Go.Proofs.YtbepmeipjdpipaaGreat
open Go.RowKit

theorem seat_any (lo hi M H sg m sc : Nat) (xs : List Value) (ps : List Pc) (hhi : hi ≤ H) (hsg : sg < H) (hHM : H ≤ M) (hn : ps.length = m) (hok : ∀ i, i < ps.length → formOk (pat ps i) = true ∧ kidsOk i (pat ps i).2.2 = true) (hq : ∀ i, i < m → (pat ps i).2.2.length ≤ 1048576) :
    ∀ (n z : Nat), z < n → z < m → ∀ (t : SeS) (lv : Value) (w : World), ShM lo hi sg m xs ps w → Sg M H w (.slice (some ⟨sg, 0, none⟩) m sc) lv t → t.lb.length + cntK ps n z ≤ 23 →
    Calls Tryz.prog 66 #[.pointer (some ⟨M, 0, none⟩), .int .i64 (z : Int)] w (SeatPost M H w (.slice (some ⟨sg, 0, none⟩) m sc) lv (seatB ps n z t)) := by
  intro n
  induction n with
  | zero => intro z h; omega
  | succ n ih =>
    intro z hz hzm t lv w hx hm hc
    have IH : ∀ k, k < z → ∀ (t' : SeS) (lv' : Value) (w' : World), ShM lo hi sg m xs ps w' → Sg M H w' (.slice (some ⟨sg, 0, none⟩) m sc) lv' t' → t'.lb.length + cntK ps n k ≤ 23 → Calls Tryz.prog 66 #[.pointer (some ⟨M, 0, none⟩), .int .i64 (k : Int)] w' (SeatPost M H w' (.slice (some ⟨sg, 0, none⟩) m sc) lv' (seatB ps n k t')) :=
      fun k hk t' lv' w' h1 h2 h3 => ih k (by omega) (by omega) t' lv' w' h1 h2 h3
    rcases formOk_cases (x := (pat ps z).1) (y := (pat ps z).2.1) (ks := (pat ps z).2.2) (hok z (by omega)).1 with ⟨e, _⟩ | ⟨e, _⟩ | ⟨e, _⟩ | ⟨e, _⟩ | ⟨e, _⟩ | ⟨e, _⟩
    · exact seat_step lo hi M H sg m sc xs ps n z lv t w hx hhi hsg hHM hn hzm e hok (hq z hzm) hm hc IH
    · exact seat_row lo hi M H sg m sc xs ps n z lv t w hx hhi hsg hHM hn hzm e hok (hq z hzm) hm hc IH
    · exact seat_alt lo hi M H sg m sc xs ps n z lv t w hx hhi hsg hHM hn hzm e hok (hq z hzm) hm hc IH
    · exact seat_star lo hi M H sg m sc xs ps n z lv t w hx hhi hsg hHM hn hzm e hok (hq z hzm) hm hc IH
    · exact seat_plus lo hi M H sg m sc xs ps n z lv t w hx hhi hsg hHM hn hzm e hok (hq z hzm) hm hc IH
    · exact seat_opt lo hi M H sg m sc xs ps n z lv t w hx hhi hsg hHM hn hzm e hok (hq z hzm) hm hc IH

theorem info4F : (Tryz.prog.info? 4).map (fun i => (i.zero, i.size, i.bytes)) = some (some (.bool false), 1, 1) := by kernel_rfl
def blCells (l : List Bool) : List Value := l.map Value.bool
theorem blOwn_of {B n : Nat} {w : World} {v : Value} {l : List Bool} (h : w.ownsRow B 4 1 v n (blCells l)) (hn : l.length = n) : ∃ a cap, v = .slice a n cap ∧ BlsOwn B w.heap.size w a l := by
  rcases h.2 with ⟨rfl, rfl⟩ | ⟨g, cap, cur, rfl, hg, hb, _⟩
  · exact ⟨none, 0, rfl, .inl (List.length_eq_zero_iff.1 hn)⟩
  · refine ⟨_, cap, rfl, .inr ⟨g, rfl, hg, (Array.getElem?_eq_some_iff.1 hb).1, ?_⟩⟩
    have := blk_own h
    rw [Nat.mul_one, ← hn] at this
    exact this.congr fun i hi => by simp [blCells, List.getD, hi]
set_option maxHeartbeats 1000000 in
theorem cloneB_any (b o n cap : Nat) (l : List Bool) (w : World) (hc : ∀ i, i < n → w.cell? ⟨b, o + i, none⟩ = some (.bool (l.getD i false))) (hb : b < w.heap.size) (hn : l.length = n) (hm : n ≤ 1048576) :
    Calls Tryz.prog 68 #[.slice (some ⟨b, o, none⟩) n cap] w fun e w' => ∃ a' cap', e = .returned (.slice a' n cap') ∧ Hid (BlsOwn w.heap.size w'.heap.size w' a' l) ∧ Hid (Below w.heap.size w w') := by
  obtain ⟨i0, hi0, hz0, hz1, hz2⟩ := info_parts info4F
  have q29 : ∀ (w : World) (a : Option Addr) (n c n' c' : Nat), (binOp .eql 78 (.slice a n c) (.slice none n' c')).run Tryz.prog w = .ok (.bool a.isNone) w := fun w a n c n' c' => Lib.run_eql_slice_nil w _ _ a n c n' c' Tryz.underlying78
  have HN : Hid (l.length = n) := hn
  have HC : Hid (∀ i, i < n → w.cell? ⟨b, o + i, none⟩ = some (.bool (l.getD i false))) := hc
  clear hn hc
  go_enter Tryz.func68, Tryz.ntmps68
  go_wp2_with (at_builtin; refine wpList_append_row _ rfl _ _ 78 rfl w.heap.size 4 i0 (.bool false) 1 1 Tryz.underlying78 hi0 hz0 hz1 hz2 rfl (by decide) _ 0 [] rfl (World.ownsRow_made w #[] 0 (Nat.le_refl _) (Nat.zero_le _) rfl) (some ⟨b, o, none⟩) n cap (blCells l) rfl (fun e => by cases e) ?qc1 ?qc2 ?qc3 ?qc4 ?qc5 ?qc6 ?_)
  case qc1 => simp [blCells, HN.out]
  case qc2 =>
    intro ad e j u hu
    simp only [Option.some.injEq] at e
    subst e
    have hj : j < l.length := by have := (List.getElem?_eq_some_iff.1 hu).1; simpa [blCells] using this
    rw [add_none, cell_below (HC.out j (by rw [← HN.out]; exact hj)) (below1 w _) hb]
    simp [blCells, hj] at hu
    simp [List.getD, hj, hu]
  case qc3 => intro u hu; obtain ⟨x, _, rfl⟩ := List.mem_map.1 hu; rfl
  case qc4 => unfold maxLen; omega
  case qc5 => omega
  case qc6 => simp
  intro v' w1 hown hgrow
  go_wp2
  go_ret
  obtain ⟨a', cap', rfl, hr⟩ := blOwn_of (n := n) (by simpa using hown) HN.out
  exact ⟨a', cap', rfl, hr, (below1 w _).grown hgrow (by simp) (by intro k hk; simp [Value.ownBlock] at hk; omega)⟩

def matC (bh : Nat → Nat → Bool) : Array Value := (bcells 576 fun x => bh (x / 24) (x % 24)).toArray
theorem matC_extract (bh : Nat → Nat → Bool) {k : Nat} (hk : k < 24) : (matC bh).extract (k * 24) (k * 24 + 24) = (bcells 24 (bh k)).toArray := by
  apply Array.ext
  · simp [matC, bcells]; omega
  · intro i h1 h2
    have hi : i < 24 := by simpa [bcells] using h2
    simp [matC, bcells, show (k * 24 + i) / 24 = k by omega, show (k * 24 + i) % 24 = i by omega]
theorem matC_size (bh : Nat → Nat → Bool) : (matC bh).size = 576 := by simp [matC, bcells]
theorem index_mat (bh : Nat → Nat → Bool) {k : Nat} (hk : k < 24) (w : World) : (Instr.index 117 (.agg (matC bh)) (.int .i64 (k : Int))).run Tryz.prog w = .ok (.agg (bcells 24 (bh k)).toArray) w := by
  rw [← matC_extract bh hk]
  have hs := matC_size bh
  generalize matC bh = c at hs ⊢
  have h0 : (0 : Int) ≤ (k : Int) := by omega
  simp [Instr.index, go_sem, hk]
theorem info_mat : (Tryz.prog.info? 117).map (·.size) = some 576 := by kernel_rfl
theorem sg_mat {w : World} {b : Nat} {sh lv : Value} {bh : Nat → Nat → Bool} (h : Blk w b 578 (sgF sh lv bh)) : w.rangeAt b 2 (bcells 576 fun x => bh (x / 24) (x % 24)) := by
  intro j v hv
  have hj : j < 576 := by have := (List.getElem?_eq_some_iff.1 hv).1; rwa [bcells_len] at this
  simp [bcells, hj] at hv
  subst hv
  rw [h.cell (i := 2 + j) (by omega)]
  unfold sgF
  rw [if_neg (by omega), if_neg (by omega), show 2 + j - 2 = j by omega]

set_option maxHeartbeats 2000000 in
set_option maxRecDepth 100000 in
theorem arcs_any (M H : Nat) (sh lv : Value) (t : SeS) (w : World) (hm : Sg M H w sh lv t) (hn : t.lb.length ≤ 23) (hb : ∀ a b, a < 24 → b < 24 → t.bh a b = true → b ≤ t.lb.length) :
    Calls Tryz.prog 67 #[.pointer (some ⟨M, 0, none⟩)] w fun e w' => ∃ (a' : Option Addr) (n' c' : Nat) (L : List Ed), e = .returned (.slice a' n' c') ∧ Hid (L.length = n') ∧ Hid (L.Perm (arcTo (0 :: t.lb) t.bh 24) ∧ L.Pairwise fun x y => ltE y x = false) ∧ Hid (EdgesOwn w.heap.size w'.heap.size w' a' L) ∧ Hid (Below w.heap.size w w') := by
  obtain ⟨i0, hi0, hz0, hz1, hz2⟩ := info_parts Tryz.info130
  obtain ⟨lb, bh⟩ := t
  dsimp only at hn hb ⊢
  have HMK : Hid (Sg M H w sh lv ⟨lb, bh⟩) := hm
  obtain ⟨la, lc, rfl, hsh⟩ := own_shape hm.lab
  obtain ⟨lg, rfl, _, hlg, hlc⟩ := hsh (by omega)
  have HLG : Hid (lg < w.heap.size) := hlg
  have HLC : Hid (∀ j, j < lb.length + 1 → w.cell? ⟨lg, j, none⟩ = some (.int .u8 ((0 :: lb).getD j 0))) := fun j hj => by
    rw [hlc j hj]
    have hj2 : j < (0 :: lb).length := by simp; omega
    simp only [lbV, List.getD, List.getElem?_map, List.getElem?_eq_getElem hj2, Option.map_some, Option.getD_some]
  obtain ⟨n, HN⟩ : ∃ n, Hid (n = lb.length + 1) := ⟨_, rfl⟩
  dsimp only at HMK
  have HB : Hid (∀ a b, a < 24 → b < 24 → bh a b = true → b < n) := fun a b h1 h2 h3 => by have := hb a b h1 h2 h3; have := HN.out; omega
  have hn24 : n ≤ 24 := by have := HN.out; omega
  obtain ⟨LB, HLB⟩ : ∃ l : List Int, Hid (l = 0 :: lb) := ⟨_, rfl⟩
  rw [← HLB.out] at HLC ⊢
  rw [← HN.out] at HLC HMK
  clear hm hb hsh hlg hlc
  obtain ⟨cm, HCM⟩ : ∃ c, Hid (c = matC bh) := ⟨_, rfl⟩
  have hcm : cm.size = 576 := by rw [HCM.out]; exact matC_size bh
  obtain ⟨B, HBB⟩ : ∃ B, Hid (B = w.heap.size) := ⟨_, rfl⟩
  have HMW : Hid (Blk w M 578 (sgF sh (.slice (some ⟨lg, 0, none⟩) n lc) bh)) := HMK.out.blk
  obtain ⟨W, HW⟩ : ∃ W, Hid (W = w.alloc (.cells #[] 130)) := ⟨_, rfl⟩
  have HBW : Hid (Below w.heap.size w W) := by rw [HW.out]; exact below1 w _
  have HOW : Hid (W.ownsRow B 130 3 (.slice (some ⟨w.heap.size, 0, none⟩) 0 0) 0 (ecells (arcTo LB bh 0))) := by
    rw [HW.out, HBB.out]
    show World.ownsRow _ _ _ _ _ _ []
    have := World.ownsRow_made w (base := w.heap.size) (e := 130) (size := 3) #[] 0 (Nat.le_refl _) (Nat.zero_le _) rfl
    simpa using this
  have HMX : Hid (Blk W M 578 (sgF sh (.slice (some ⟨lg, 0, none⟩) n lc) bh)) := HMW.out.of_block (HBW.out.block _ HMW.out.lt)
  have HML : Hid (M < w.heap.size) := HMW.out.lt
  go_enter Tryz.func67, Tryz.ntmps67
  go_upto_region 2 with fail
  rw [← HW.out]
  clear HW
  go_upto_region 3 with (first | (with_reducible refine wpList_here' ?_; first | (refine wpList_load_mid rfl 117 _ rfl M 2 rfl (bcells 576 fun x => bh (x / 24) (x % 24)) _ (sg_mat HMX.out) Tryz.underlying117 rfl (by rw [bcells_len]; exact info_mat) ?_)))
  rw [show ((bcells 576 fun x => bh (x / 24) (x % 24)).toArray : Array Value) = cm from HCM.out.symm]
  go_wp2
  go_loopw [13, 3] (fun i v wr => ∃ a q : Nat, i = .int .i64 (a : Int) ∧ a ≤ 24 ∧ Hid (wr.ownsRow B 130 3 v q (ecells (arcTo LB bh a))) ∧ Hid ((arcTo LB bh a).length = q) ∧ Hid (Below w.heap.size w wr)) (fun i _ _ => 24 - (intOf i).toNat)
  case atStart => exact ⟨0, 0, rfl, by omega, HOW, rfl, HBW⟩
  case round =>
    obtain ⟨a, q, rfl, ha, HO, HQ, HBR⟩ := hrel
    by_cases hlt : a < 24
    · obtain ⟨oa, oc, rfl, _⟩ := arcs_own HO.out HQ.out
      have hlt1 : (a : Int) < 24 := by omega
      have hlt0 : (0 : Int) ≤ (a : Int) := by omega
      obtain ⟨cr, HCR⟩ : ∃ c, Hid (c = (bcells 24 (bh a)).toArray) := ⟨_, rfl⟩
      have hcr : cr.size = 24 := by rw [HCR.out]; exact bcells_size _ _
      have hix : ∀ w, (Instr.index 117 (.agg cm) (.int .i64 (a : Int))).run Tryz.prog w = .ok (.agg cr) w := fun w => by rw [HCM.out, HCR.out]; exact index_mat bh hlt w
      obtain ⟨D, HD⟩ : ∃ D, Hid (D = wr.heap.size) := ⟨_, rfl⟩
      obtain ⟨X, HX⟩ : ∃ X, Hid (X = (wr.alloc (.cells #[.bool false, .bool false, .bool false, .bool false, .bool false, .bool false, .bool false, .bool false, .bool false, .bool false, .bool false, .bool false, .bool false, .bool false, .bool false, .bool false, .bool false, .bool false, .bool false, .bool false, .bool false, .bool false, .bool false, .bool false] 116)).setCells D 0 (bcells 24 (bh a))) := ⟨_, rfl⟩
      have HT : Hid ((wr.alloc (.cells #[.bool false, .bool false, .bool false, .bool false, .bool false, .bool false, .bool false, .bool false, .bool false, .bool false, .bool false, .bool false, .bool false, .bool false, .bool false, .bool false, .bool false, .bool false, .bool false, .bool false, .bool false, .bool false, .bool false, .bool false] 116)).there wr.heap.size 0 24) := (BBlk.zero wr _ rfl _).there 0 24 (by omega)
      have HBX : Hid (Below wr.heap.size wr X) := by rw [HX.out]; exact Below.setCells (by have := HD.out; omega) _ _ (below1 wr _)
      have HXB : Hid (BBlk X D 24 (bh a)) := by rw [HX.out]; exact (BBlk.zero wr D HD.out _).put _
      have HOX : Hid (X.ownsRow B 130 3 (.slice oa q oc) q (ecells (arcTo LB bh a))) := owns_keptP HO.out (kp_below HBX.out) (fun c e e2 => by have := (HO.out.lt c e).2; omega)
      have HBRX : Hid (Below w.heap.size w X) := HBR.out.trans (HBX.out.mono HBR.out.size)
      go_upto_region 5 with (first | (with_reducible refine wpList_here' ?_; first | (refine wpList_store_mid rfl 116 _ _ rfl wr.heap.size 0 cr rfl rfl (by rw [hcr]; exact HT.out) (by rw [hcr]; exact info_set) (by rw [HCR.out]; exact bcells_one _ _) ?_; dsimp only [Act.put])))
      rw [← HD.out]
      rw [show (wr.alloc (.cells #[.bool false, .bool false, .bool false, .bool false, .bool false, .bool false, .bool false, .bool false, .bool false, .bool false, .bool false, .bool false, .bool false, .bool false, .bool false, .bool false, .bool false, .bool false, .bool false, .bool false, .bool false, .bool false, .bool false, .bool false] 116)).setCells D 0 cr.toList = X by rw [HX.out, HCR.out, List.toList_toArray]]
      clear hix HT HX
      go_upto_region 6 with (first | (with_reducible refine wpList_here' ?_; first | (refine wpList_load_mid rfl 116 _ rfl D 0 rfl (bcells 24 (bh a)) _ HXB.out.all Tryz.underlying116 rfl (by rw [bcells_len]; exact info_set) ?_)))
      rw [show ((bcells 24 (bh a)).toArray : Array Value) = cr from HCR.out.symm]
      have HST : Hid (X.ownsRow B 130 3 (.slice oa q oc) q (ecells (arcTo LB bh a ++ arcRow LB bh a 0))) := by rw [arcRow_zero, List.append_nil]; exact HOX
      have HSQ : Hid ((arcTo LB bh a ++ arcRow LB bh a 0).length = q) := by show _ = _; rw [arcRow_zero, List.append_nil]; exact HQ.out
      have HQL : Hid (∀ b, b ≤ 24 → (arcTo LB bh a ++ arcRow LB bh a b).length ≤ 600) := fun b hb => by have h1 := arcTo_len LB bh a; have h2 := arcRow_len LB bh a b; rw [List.length_append]; omega
      clear HOX HO
      go_wp2
      go_loopw [18, 3] (fun i v wq => ∃ b q : Nat, i = .int .i64 (b : Int) ∧ b ≤ 24 ∧ Hid (wq.ownsRow B 130 3 v q (ecells (arcTo LB bh a ++ arcRow LB bh a b))) ∧ Hid ((arcTo LB bh a ++ arcRow LB bh a b).length = q) ∧ Hid (Below w.heap.size w wq)) (fun i _ _ => 24 - (intOf i).toNat)
      case atStart => exact ⟨0, q, rfl, by omega, HST, HSQ, HBRX⟩
      case round =>
        obtain ⟨b, q2, rfl, hb, HO, HQ2, HBR2⟩ := hrel
        obtain ⟨oa2, oc2, rfl, _⟩ := arcs_own HO.out HQ2.out
        have hq2 : q2 ≤ 600 := by rw [← HQ2.out]; exact HQL.out b hb
        by_cases hlt2 : b < 24
        · have hlt3 : (b : Int) < 24 := by omega
          have hlt4 : (0 : Int) ≤ (b : Int) := by omega
          obtain ⟨y, HYY⟩ : ∃ y, Hid (y = bh a b) := ⟨_, rfl⟩
          have hix : ∀ w, (Instr.index 116 (.agg cr) (.int .i64 (b : Int))).run Tryz.prog w = .ok (.bool y) w := fun w => by rw [HCR.out, HYY.out]; exact index_set (bh a) hlt2 w
          rcases Bool.eq_false_or_eq_true y with hy | hy
          · subst hy
            have hbn : b < n := HB.out a b hlt hlt2 HYY.out.symm
            have hbn1 : (b : Int) < (n : Int) := by omega
            obtain ⟨x, HXX⟩ : ∃ x, Hid (x = LB.getD b 0) := ⟨_, rfl⟩
            have HMR : Hid (Blk wr M 578 (sgF sh (.slice (some ⟨lg, 0, none⟩) n lc) bh)) := HMW.out.of_block (HBR2.out.block _ HML.out)
            have m1 : wr.cell? ⟨M, 1, none⟩ = some (.slice (some ⟨lg, 0, none⟩) n lc) := HMR.out.cell (i := 1) (by omega)
            have l1 : wr.cell? ⟨lg, b, none⟩ = some (.int .u8 x) := by rw [HXX.out]; exact cell_below (HLC.out b hbn) HBR2.out HLG.out
            obtain ⟨LL, HLL⟩ : ∃ LL, Hid (LL = arcTo LB bh a ++ arcRow LB bh a b) := ⟨_, rfl⟩
            have HNXL : Hid (arcTo LB bh a ++ arcRow LB bh a (b + 1) = LL ++ [((a : Int), x, (b : Int))]) := by show _ = _; rw [arcRow_succ, ← HYY.out, if_pos rfl, HLL.out, List.append_assoc, HXX.out]
            rw [← HLL.out] at HO HQ2
            have hown := HO.out.alloc (.cells #[.int .i64 (a : Int), .int .u8 x, .int .i64 (b : Int)] 130)
            have hbs : B ≤ wr.heap.size := by have := HBR2.out.size; have := HBB.out; omega
            go_upto_region 10 with (at_builtin; refine wpList_append_lies _ rfl (.tmp 23) (.tmp 34) 77 rfl B 130 i0 _ 3 24 Tryz.underlying77 hi0 hz0 hz1 hz2 rfl (by decide) _ q2 (ecells LL) rfl hown ⟨wr.heap.size, 0, none⟩ 1 1 [.int .i64 (a : Int), .int .u8 x, .int .i64 (b : Int)] rfl rfl (news_three wr _ _ _ _) (by simp [Value.oneCell']) (by decide) (by unfold maxLen; omega) (by omega) (by simp; omega) _ rfl ?_; intro g2 cap2 w2 hown2 hgrow2 _ _)
            have HL2 : Hid (Below w.heap.size w w2) := (HBR2.out.alloc HBR2.out.size _).grown hgrow2 (by have := HBR2.out.size; simp; omega) (fun k hk => by have := (HO.out.lt k hk).1; have := HBB.out; omega)
            have HO2 : Hid (w2.ownsRow B 130 3 (.slice (some ⟨g2, 0, none⟩) (q2 + 1) cap2) (q2 + 1) (ecells (arcTo LB bh a ++ arcRow LB bh a (b + 1)))) := by show World.ownsRow _ _ _ _ _ _ _; rw [HNXL.out, ecells_snoc]; exact hown2
            have HQ3 : Hid ((arcTo LB bh a ++ arcRow LB bh a (b + 1)).length = q2 + 1) := by show _ = _; rw [HNXL.out, List.length_append, HQ2.out]; rfl
            clear hown hown2 hgrow2 m1 l1 hix HO HQ2 HLL HNXL
            go_wp2
            go_roundw
            case rel => exact ⟨b + 1, q2 + 1, by go_num, by omega, HO2, HQ3, HL2⟩
            case measure => simp [intOf]; omega
          · subst hy
            have HNXL : Hid (arcTo LB bh a ++ arcRow LB bh a (b + 1) = arcTo LB bh a ++ arcRow LB bh a b) := by show _ = _; rw [arcRow_succ, ← HYY.out]; simp
            have HO2 : Hid (wr.ownsRow B 130 3 (.slice oa2 q2 oc2) q2 (ecells (arcTo LB bh a ++ arcRow LB bh a (b + 1)))) := by show World.ownsRow _ _ _ _ _ _ _; rw [HNXL.out]; exact HO
            have HQ3 : Hid ((arcTo LB bh a ++ arcRow LB bh a (b + 1)).length = q2) := by show _ = _; rw [HNXL.out]; exact HQ2.out
            go_wp2
            go_roundw
            case rel => exact ⟨b + 1, q2, by go_num, by omega, HO2, HQ3, HBR2⟩
            case measure => simp [intOf]; omega
        · obtain rfl : b = 24 := by omega
          have HO2 : Hid (wr.ownsRow B 130 3 (.slice oa2 q2 oc2) q2 (ecells (arcTo LB bh (a + 1)))) := by show World.ownsRow _ _ _ _ _ _ _; rw [arcTo_succ]; exact HO
          have HQ3 : Hid ((arcTo LB bh (a + 1)).length = q2) := by show _ = _; rw [arcTo_succ]; exact HQ2.out
          go_wp2
          go_roundw
          case rel => exact ⟨a + 1, q2, by go_num, by omega, HO2, HQ3, HBR2⟩
          case measure => simp [intOf]; omega
    · obtain rfl : a = 24 := by omega
      obtain ⟨a', c', rfl, hown⟩ := arcs_own HO.out HQ.out
      have hq : q ≤ 1048576 := by have := arcTo_len LB bh 24; have := HQ.out; omega
      have HCS := Hid_mk (sortOwnA_any B wr.heap.size q c' a' (arcTo LB bh 24) wr hown (Nat.le_refl _) HQ.out hq)
      go_upto_region 13 with (go_at_call 83; refine (HCS.out).mono ?_; rintro e w9 ⟨rfl, L', HP, HOE, HK9⟩)
      have HPL : Hid (L'.length = q) := by show _ = _; rw [HP.out.1.length_eq]; exact HQ.out
      go_wp2
      go_ret
      exact ⟨a', q, c', L', rfl, HPL, HP, by have h := HOE.out.wide (Nat.le_refl _) HK9.out.size; rw [HBB.out] at h; exact h, HBR.out.trans (HK9.out.to_below HBR.out.size (fun k hk => by have := HBB.out; omega))⟩
end Go.Proofs.YtbepmeipjdpipaaGreat

namespace Go.Proofs.YtbepmeipjdpipaaGreat
open Go.RowKit

theorem cntL_snoc (c : Nat → Nat) (x : Int) : ∀ l : List Int, cntL c (l ++ [x]) = cntL c l + c x.toNat
  | [] => by simp [cntL]
  | y :: l => by show c y.toNat + cntL c (l ++ [x]) = c y.toNat + cntL c l + c x.toNat; rw [cntL_snoc c x l]; omega
theorem cntL_congr {c d : Nat → Nat} : ∀ {l : List Int}, (∀ x, x ∈ l → c x.toNat = d x.toNat) → cntL c l = cntL d l
  | [], _ => rfl
  | y :: l, h => by show c y.toNat + cntL c l = d y.toNat + cntL d l; rw [h y (List.mem_cons_self ..), cntL_congr fun x hx => h x (List.mem_cons_of_mem _ hx)]
theorem cntK_fuel {ps : List Pc} (hok : ∀ i, i < ps.length → formOk (pat ps i) = true ∧ kidsOk i (pat ps i).2.2 = true) : ∀ (n m z : Nat), z < n → z < m → z < ps.length → cntK ps n z = cntK ps m z := by
  intro n
  induction n with
  | zero => intro m z h; omega
  | succ n ih =>
    intro m z h1 h2 h3
    obtain ⟨m, rfl⟩ : ∃ k, m = k + 1 := ⟨m - 1, by omega⟩
    unfold cntK
    by_cases e : (pat ps z).1 = 1
    · rw [if_pos e, if_pos e]
    · rw [if_neg e, if_neg e]
      refine cntL_congr fun x hx => ?_
      have h4 := List.all_eq_true.1 (hok z h3).2 x hx
      simp only [Bool.and_eq_true, decide_eq_true_eq] at h4
      exact ih m x.toNat (by omega) (by omega) (by omega)
def cS (ps : List Pc) (z : Nat) : Nat := min 24 (cntK ps (z + 1) z)
def csL (ps : List Pc) : Nat → List Int
  | 0 => []
  | n + 1 => csL ps n ++ [(cS ps n : Int)]
theorem csL_len (ps : List Pc) : ∀ n, (csL ps n).length = n
  | 0 => rfl
  | n + 1 => by show (csL ps n ++ _).length = _; rw [List.length_append, csL_len ps n]; rfl
theorem csL_at (ps : List Pc) {z : Nat} : ∀ {n : Nat}, z < n → (csL ps n).getD z 0 = (cS ps z : Int)
  | 0, h => by omega
  | n + 1, h => by
    show (csL ps n ++ _).getD z 0 = _
    by_cases e : z < n
    · rw [List.getD, List.getElem?_append_left (by rw [csL_len]; exact e)]
      exact csL_at ps e
    · obtain rfl : z = n := by omega
      rw [List.getD, List.getElem?_append_right (by rw [csL_len]; exact Nat.le_refl _), csL_len]
      simp
def cJ (ps : List Pc) (ks : List Int) : Nat → Nat
  | 0 => if ks.length = 0 then 1 else 0
  | j + 1 => min (cJ ps ks j + cS ps (ks.getD j 0).toNat) 24
theorem cJ_le (ps : List Pc) (ks : List Int) : ∀ j, cJ ps ks j ≤ 24
  | 0 => by unfold cJ; split <;> omega
  | j + 1 => by unfold cJ; omega
theorem cS_le (ps : List Pc) (z : Nat) : cS ps z ≤ 24 := by unfold cS; omega
theorem cJ_sum {ps : List Pc} {ks : List Int} (h0 : ¬ ks.length = 0) : ∀ j, j ≤ ks.length → cJ ps ks j = min 24 (cntL (fun k => cntK ps (k + 1) k) (ks.take j))
  | 0, _ => by unfold cJ; rw [if_neg h0]; rfl
  | j + 1, h => by
    unfold cJ
    rw [cJ_sum h0 j (by omega), take_snocI ks (by omega), cntL_snoc]
    unfold cS
    omega
theorem form_len {x : Pc} (h : formOk x = true) : (x.1 = 1 ∧ x.2.2.length = 0) ∨ (¬ x.1 = 1 ∧ ¬ x.2.2.length = 0) := by
  obtain ⟨x0, x1, ks⟩ := x
  show (x0 = 1 ∧ ks.length = 0) ∨ (¬ x0 = 1 ∧ ¬ ks.length = 0)
  rcases formOk_cases h with ⟨e, _, h4⟩ | ⟨e, _, h4⟩ | ⟨e, _, h4⟩ | ⟨e, _, h4⟩ | ⟨e, _, h4⟩ | ⟨e, _, h4⟩
  · exact .inl ⟨e, h4⟩
  all_goals exact .inr ⟨by omega, by omega⟩
theorem cJ_all {ps : List Pc} (hok : ∀ i, i < ps.length → formOk (pat ps i) = true ∧ kidsOk i (pat ps i).2.2 = true) {z : Nat} (hz : z < ps.length) : cJ ps (pat ps z).2.2 (pat ps z).2.2.length = cS ps z := by
  rcases form_len (hok z hz).1 with ⟨e1, h0⟩ | ⟨e1, h0⟩
  · rw [h0]
    show (if (pat ps z).2.2.length = 0 then 1 else 0) = _
    rw [if_pos h0]
    unfold cS cntK
    rw [if_pos e1]
    rfl
  · rw [cJ_sum h0 _ (Nat.le_refl _), List.take_length]
    unfold cS
    conv => rhs; unfold cntK
    rw [if_neg e1]
    refine congrArg _ (cntL_congr fun x hx => ?_)
    have h4 := List.all_eq_true.1 (hok z hz).2 x hx
    simp only [Bool.and_eq_true, decide_eq_true_eq] at h4
    exact cntK_fuel hok _ _ _ (by omega) (by omega) (by omega)

set_option maxHeartbeats 1000000 in
set_option maxRecDepth 100000 in
theorem steps_any (lo hi B : Nat) (sv : Value) (n : Nat) (xs : List Value) (l : List Pc) (w : World) (hx : Shs lo hi w xs l n) (ho : w.ownsRow B 136 1 sv n xs) (hh : hi ≤ w.heap.size) (hn : l.length = n) (h1n : 1 ≤ n) (hn6 : n ≤ 60) (hok : ∀ i, i < l.length → formOk (pat l i) = true ∧ kidsOk i (pat l i).2.2 = true) (hq : ∀ i, i < n → (pat l i).2.2.length ≤ 1048576) :
    Calls Tryz.prog 65 #[sv] w fun e w' => e = .returned (.int .i64 (cS l (n - 1) : Int)) ∧ Hid (Below w.heap.size w w') := by
  obtain ⟨i3, hi3, hz30, hz31, hz32⟩ := info_parts Tryz.info3
  obtain ⟨sa, sc, rfl, hsc⟩ := own_shape ho
  obtain ⟨sg, rfl, _, hsl, hcell⟩ := hsc (by omega)
  have HSL : Hid (sg < w.heap.size) := hsl
  have HCELL : Hid (∀ j, j < n → w.cell? ⟨sg, j, none⟩ = some (xs.getD j (.int .i64 0))) := hcell
  have HX : Hid (Shs lo hi w xs l n) := hx
  have HN : Hid (l.length = n) := hn
  have HH : Hid (hi ≤ w.heap.size) := hh
  have HOK : Hid (∀ i, i < l.length → formOk (pat l i) = true ∧ kidsOk i (pat l i).2.2 = true) := hok
  have HQ : Hid (∀ i, i < n → (pat l i).2.2.length ≤ 1048576) := hq
  clear hx ho hh hn hok hq hsl hcell hsc
  obtain ⟨B0, HB0⟩ : ∃ B, Hid (B = w.heap.size) := ⟨_, rfl⟩
  go_enter Tryz.func65, Tryz.ntmps65
  go_wp2
  go_loopw [12, 3] (fun i v wr => ∃ k : Nat, i = .int .i64 (k : Int) ∧ k ≤ n ∧ Hid (wr.ownsRow w.heap.size 3 1 v k (rowCells (csL l k))) ∧ Hid (Below w.heap.size w wr)) (fun i _ _ => n - (intOf i).toNat)
  case atStart =>
    refine ⟨0, rfl, by omega, ?_, below1 w _⟩
    show World.ownsRow _ _ _ _ _ _ []
    have := World.ownsRow_made w (base := w.heap.size) (e := 3) (size := 1) #[] 0 (Nat.le_refl _) (Nat.zero_le _) rfl
    simpa using this
  case round =>
    obtain ⟨k, rfl, hk, HO, HBR⟩ := hrel
    obtain ⟨ca, cc, rfl, hcc⟩ := own_shape HO.out
    have HCC : Hid (0 < k → ∃ g, ca = some ⟨g, 0, none⟩ ∧ w.heap.size ≤ g ∧ g < wr.heap.size ∧ ∀ j, j < k → wr.cell? ⟨g, j, none⟩ = some ((rowCells (csL l k)).getD j (.int .i64 0))) := hcc
    clear hcc
    by_cases hlt : k < n
    · have hlt1 : (k : Int) < (n : Int) := by omega
      have hlt0 : (0 : Int) ≤ (k : Int) := by omega
      obtain ⟨ra, rc, hxv, hrow⟩ := HX.out.2 k hlt
      have hp := cell_below (HCELL.out k hlt) HBR.out HSL.out
      have hgd : xs.getD k (.int .i64 0) = shv ra rc (pat l k) := by rw [← hxv]; simp [List.getD, HX.out.1, hlt]
      rw [hgd] at hp
      obtain ⟨x, HXX⟩ : ∃ x, Hid (x = pat l k) := ⟨_, rfl⟩
      have hfk := HOK.out k (by rw [HN.out]; exact hlt)
      have hql := HQ.out k hlt
      have hcj := cJ_all (z := k) HOK.out (by rw [HN.out]; exact hlt)
      rw [← HXX.out] at hp hrow hfk hql hcj
      obtain ⟨x0, y, ks⟩ := x
      dsimp only at hrow hfk hql hcj
      obtain ⟨q, HKL⟩ : ∃ q, Hid (ks.length = q) := ⟨_, rfl⟩
      rw [HKL.out] at hql hcj
      have HF : Hid (formOk (x0, y, ks) = true) := hfk.1
      have HKO : Hid (∀ j, j < q → ∃ z : Nat, ks.getD j 0 = (z : Int) ∧ z < k) := fun j hj => by
        have h1 := List.all_eq_true.1 hfk.2 (ks.getD j 0) (by rw [List.getD, List.getElem?_eq_getElem (by rw [HKL.out]; exact hj)]; exact List.getElem_mem _)
        simp only [Bool.and_eq_true, decide_eq_true_eq] at h1
        exact ⟨(ks.getD j 0).toNat, by omega, by omega⟩
      have HCJ : Hid (cJ l ks q = cS l k) := hcj
      have HRW : Hid (RowIn lo hi wr ra ks) := hrow.below HBR.out HH.out
      have HSR : Hid (w.heap.size ≤ wr.heap.size) := HBR.out.size
      obtain ⟨v1, HV⟩ : ∃ v, Hid (v = shv ra rc (x0, y, ks)) := ⟨_, rfl⟩
      rw [← HV.out] at hp
      have hone : v1.oneCell' = true := by rw [HV.out]; exact shv_one _ _ _
      clear hrow hfk hcj hxv hgd
      go_upto_region 6 with fail
      go_cut [19] (fun v wc => v = .bool (decide (q = 0)) ∧ Hid (Below wr.heap.size wr wc))
      case first =>
        rcases formOk_cases HF.out with ⟨rfl, h3, h4⟩ | ⟨rfl, rfl, h4⟩ | ⟨rfl, rfl, h4⟩ | ⟨rfl, rfl, h4⟩ | ⟨rfl, rfl, h4⟩ | ⟨rfl, rfl, h4⟩
        · have hv : v1 = .iface 142 (.agg #[.int .u8 y]) := HV.out
          subst hv
          have HKN : Hid (ks = []) := List.length_eq_zero_iff.1 h4
          obtain rfl : q = 0 := by have := HKL.out; omega
          go_wp2_with fail
          refine (kidsStep_any y wr).mono ?_
          rintro e w2 ⟨rfl, HB2⟩
          go_wp2_with fail
          go_meet
          case rel => exact ⟨rfl, HB2⟩
        · have hv : v1 = .iface 147 (.agg #[.slice ra q rc]) := by rw [HV.out, ← HKL.out]; rfl
          subst hv
          have hq2 : 2 ≤ q := by have := HKL.out; omega
          have hq3 : ¬ (q : Int) = 0 := by omega
          have hq4 : ((q : Int) == 0) = false := by simpa using hq3
          go_wp2_with fail
          rw [types144]
          refine (kidsMany_any ra q rc wr).mono ?_
          rintro e w2 ⟨rfl, HB2⟩
          go_wp2_with fail
          go_meet
          case rel => exact ⟨by rw [decide_eq_false (show ¬ q = 0 by omega)], HB2⟩
        · have hv : v1 = .iface 149 (.agg #[.slice ra q rc]) := by rw [HV.out, ← HKL.out]; rfl
          subst hv
          have hq2 : 2 ≤ q := by have := HKL.out; omega
          have hq3 : ¬ (q : Int) = 0 := by omega
          have hq4 : ((q : Int) == 0) = false := by simpa using hq3
          go_wp2_with fail
          rw [types144]
          refine (kidsMany_any ra q rc wr).mono ?_
          rintro e w2 ⟨rfl, HB2⟩
          go_wp2_with fail
          go_meet
          case rel => exact ⟨by rw [decide_eq_false (show ¬ q = 0 by omega)], HB2⟩
        · obtain ⟨v, HVV⟩ : ∃ v, Hid (v = ks.getD 0 0) := ⟨_, rfl⟩
          have hv : v1 = .iface 154 (.agg #[.int .i64 v]) := by rw [HV.out, HVV.out]; rfl
          subst hv
          have HKN : Hid (ks = [v]) := one_row h4 HVV.out
          obtain rfl : q = 1 := by have := HKL.out; omega
          go_wp2_with fail
          rw [types149]
          refine (kidsOne_any v wr).mono ?_
          rintro e w2 ⟨g2, rfl, HG2, HB2⟩
          go_wp2_with fail
          go_meet
          case rel => exact ⟨rfl, HB2⟩
        · obtain ⟨v, HVV⟩ : ∃ v, Hid (v = ks.getD 0 0) := ⟨_, rfl⟩
          have hv : v1 = .iface 155 (.agg #[.int .i64 v]) := by rw [HV.out, HVV.out]; rfl
          subst hv
          have HKN : Hid (ks = [v]) := one_row h4 HVV.out
          obtain rfl : q = 1 := by have := HKL.out; omega
          go_wp2_with fail
          rw [types149]
          refine (kidsOne_any v wr).mono ?_
          rintro e w2 ⟨g2, rfl, HG2, HB2⟩
          go_wp2_with fail
          go_meet
          case rel => exact ⟨rfl, HB2⟩
        · obtain ⟨v, HVV⟩ : ∃ v, Hid (v = ks.getD 0 0) := ⟨_, rfl⟩
          have hv : v1 = .iface 156 (.agg #[.int .i64 v]) := by rw [HV.out, HVV.out]; rfl
          subst hv
          have HKN : Hid (ks = [v]) := one_row h4 HVV.out
          obtain rfl : q = 1 := by have := HKL.out; omega
          go_wp2_with fail
          rw [types149]
          refine (kidsOne_any v wr).mono ?_
          rintro e w2 ⟨g2, rfl, HG2, HB2⟩
          go_wp2_with fail
          go_meet
          case rel => exact ⟨rfl, HB2⟩
      case rest =>
        obtain ⟨rfl, HBC⟩ := hcut
        clear hp
        by_cases hq0 : q = 0
        · rw [show decide (q = 0) = true from decide_eq_true hq0]
          have HC0 : Hid (cJ l ks 0 = 1) := by show (if ks.length = 0 then 1 else 0) = _; rw [if_pos (by rw [HKL.out]; exact hq0)]
          clear hq0
          go_upto_region 8 with fail
          go_cut [21, 22, 23] (fun s m z wd => ∃ a' c', s = .slice a' q c' ∧ m = .int .i64 q ∧ z = .int .i64 0 ∧ Hid (RowIn 0 wd.heap.size wd a' ks) ∧ Hid (Below wr.heap.size wr wd))
          case first =>
            have HRC : Hid (RowIn lo hi wc ra ks) := HRW.out.below HBC.out (Nat.le_trans HH.out HSR.out)
            have HSC : Hid (wr.heap.size ≤ wc.heap.size) := HBC.out.size
            rcases formOk_cases HF.out with ⟨rfl, h3, h4⟩ | ⟨rfl, rfl, h4⟩ | ⟨rfl, rfl, h4⟩ | ⟨rfl, rfl, h4⟩ | ⟨rfl, rfl, h4⟩ | ⟨rfl, rfl, h4⟩
            · have hv : v1 = .iface 142 (.agg #[.int .u8 y]) := HV.out
              subst hv
              have HKN : Hid (ks = []) := List.length_eq_zero_iff.1 h4
              obtain rfl : q = 0 := by have := HKL.out; omega
              go_wp2_with fail
              refine (kidsStep_any y wc).mono ?_
              rintro e w2 ⟨rfl, HB2⟩
              go_wp2_with fail
              go_meet
              case rel => exact ⟨none, 0, rfl, rfl, rfl, .inl HKN.out, HBC.out.trans (HB2.out.mono HSC.out)⟩
            · have hv : v1 = .iface 147 (.agg #[.slice ra q rc]) := by rw [HV.out, ← HKL.out]; rfl
              subst hv
              have hq2 : 2 ≤ q := by have := HKL.out; omega
              have hq3 : ¬ (q : Int) = 0 := by omega
              have hq4 : ((q : Int) == 0) = false := by simpa using hq3
              go_wp2_with fail
              rw [types144]
              refine (kidsMany_any ra q rc wc).mono ?_
              rintro e w2 ⟨rfl, HB2⟩
              go_wp2_with fail
              go_meet
              case rel => exact ⟨ra, rc, rfl, rfl, rfl, (HRC.out.below HB2.out (by have := HH.out; have := HSR.out; have := HSC.out; omega)).wide (Nat.zero_le _) (by have := HH.out; have := HSR.out; have := HSC.out; have := HB2.out.size; omega), HBC.out.trans (HB2.out.mono HSC.out)⟩
            · have hv : v1 = .iface 149 (.agg #[.slice ra q rc]) := by rw [HV.out, ← HKL.out]; rfl
              subst hv
              have hq2 : 2 ≤ q := by have := HKL.out; omega
              have hq3 : ¬ (q : Int) = 0 := by omega
              have hq4 : ((q : Int) == 0) = false := by simpa using hq3
              go_wp2_with fail
              rw [types144]
              refine (kidsMany_any ra q rc wc).mono ?_
              rintro e w2 ⟨rfl, HB2⟩
              go_wp2_with fail
              go_meet
              case rel => exact ⟨ra, rc, rfl, rfl, rfl, (HRC.out.below HB2.out (by have := HH.out; have := HSR.out; have := HSC.out; omega)).wide (Nat.zero_le _) (by have := HH.out; have := HSR.out; have := HSC.out; have := HB2.out.size; omega), HBC.out.trans (HB2.out.mono HSC.out)⟩
            · obtain ⟨v, HVV⟩ : ∃ v, Hid (v = ks.getD 0 0) := ⟨_, rfl⟩
              have hv : v1 = .iface 154 (.agg #[.int .i64 v]) := by rw [HV.out, HVV.out]; rfl
              subst hv
              have HKN : Hid (ks = [v]) := one_row h4 HVV.out
              obtain rfl : q = 1 := by have := HKL.out; omega
              go_wp2_with fail
              rw [types149]
              refine (kidsOne_any v wc).mono ?_
              rintro e w2 ⟨g2, rfl, HG2, HB2⟩
              go_wp2_with fail
              go_meet
              case rel => exact ⟨some ⟨g2, 0, none⟩, 1, rfl, rfl, rfl, by rw [HKN.out]; exact HG2, HBC.out.trans (HB2.out.mono HSC.out)⟩
            · obtain ⟨v, HVV⟩ : ∃ v, Hid (v = ks.getD 0 0) := ⟨_, rfl⟩
              have hv : v1 = .iface 155 (.agg #[.int .i64 v]) := by rw [HV.out, HVV.out]; rfl
              subst hv
              have HKN : Hid (ks = [v]) := one_row h4 HVV.out
              obtain rfl : q = 1 := by have := HKL.out; omega
              go_wp2_with fail
              rw [types149]
              refine (kidsOne_any v wc).mono ?_
              rintro e w2 ⟨g2, rfl, HG2, HB2⟩
              go_wp2_with fail
              go_meet
              case rel => exact ⟨some ⟨g2, 0, none⟩, 1, rfl, rfl, rfl, by rw [HKN.out]; exact HG2, HBC.out.trans (HB2.out.mono HSC.out)⟩
            · obtain ⟨v, HVV⟩ : ∃ v, Hid (v = ks.getD 0 0) := ⟨_, rfl⟩
              have hv : v1 = .iface 156 (.agg #[.int .i64 v]) := by rw [HV.out, HVV.out]; rfl
              subst hv
              have HKN : Hid (ks = [v]) := one_row h4 HVV.out
              obtain rfl : q = 1 := by have := HKL.out; omega
              go_wp2_with fail
              rw [types149]
              refine (kidsOne_any v wc).mono ?_
              rintro e w2 ⟨g2, rfl, HG2, HB2⟩
              go_wp2_with fail
              go_meet
              case rel => exact ⟨some ⟨g2, 0, none⟩, 1, rfl, rfl, rfl, by rw [HKN.out]; exact HG2, HBC.out.trans (HB2.out.mono HSC.out)⟩
          case rest =>
            obtain ⟨a', c', rfl, rfl, rfl, HRI, HBD⟩ := hcut
            go_wp2
            go_loopw [23, 6] (fun i v we => ∃ j : Nat, i = .int .i64 (j : Int) ∧ v = .int .i64 (cJ l ks j : Int) ∧ j ≤ q ∧ we = wc) (fun i _ _ => q - (intOf i).toNat)
            case atStart => exact ⟨0, rfl, by rw [HC0.out]; rfl, by omega, rfl⟩
            case round =>
              obtain ⟨j, rfl, rfl, hj, rfl⟩ := hrel
              by_cases hjq : j < q
              · have hj1 : (j : Int) < (q : Int) := by omega
                have hj0 : (0 : Int) ≤ (j : Int) := by omega
                obtain ⟨z, hz, hzk⟩ := HKO.out j hjq
                obtain ⟨rb, ro, rfl, hr⟩ := HRI.out.num (i := j) (by rw [HKL.out]; exact hjq)
                rw [hz] at hr
                obtain ⟨cg, rfl, _, hcl, hcc⟩ := HCC.out (by omega)
                have hcz := cell_below (hcc z hzk) HBD.out hcl
                rw [show (rowCells (csL l k)).getD z (.int .i64 0) = .int .i64 (cS l z : Int) by rw [← csL_at l hzk]; simp [rowCells, List.getD, csL_len, hzk]] at hcz
                obtain ⟨p, HP⟩ : ∃ p, Hid (p = cJ l ks j) := ⟨_, rfl⟩
                obtain ⟨c, HCS⟩ : ∃ c, Hid (c = cS l z) := ⟨_, rfl⟩
                rw [← HP.out]
                rw [← HCS.out] at hcz
                have hple : p ≤ 24 := by rw [HP.out]; exact cJ_le _ _ _
                have hcle : c ≤ 24 := by rw [HCS.out]; exact cS_le _ _
                have HNX : Hid (cJ l ks (j + 1) = min (p + c) 24) := by show _ = _; show min (cJ l ks j + cS l (ks.getD j 0).toNat) 24 = _; rw [HP.out, HCS.out, hz, show ((z : Int)).toNat = z by omega]
                have hz0 : (0 : Int) ≤ (z : Int) := by omega
                have hz1 : (z : Int) < (k : Int) := by omega
                have hw1 : IntKind.i64.wrap ((p : Int) + (c : Int)) = (p : Int) + (c : Int) := by simp [IntKind.wrap, IntKind.bits, IntKind.signed]; omega
                clear hz hcc hcl
                go_wp2
                go_roundw
                case rel => exact ⟨j + 1, by go_num, by rw [HNX.out]; congr 1; omega, by omega, by first | rfl | trivial⟩
                case measure => simp [intOf]; omega
              · obtain rfl : j = q := by omega
                have HE : Hid (cJ l ks j = cS l k) := HCJ.out
                rw [HE.out]
                have hown := (own_below HO.out HBD.out).alloc (.cells #[.int .i64 (cS l k : Int)] 3)
                have hlt9 := hown.lt
                have HSD : Hid (w.heap.size ≤ wr.heap.size) := Nat.le_trans HSR.out HBD.out.size
                have HBW := HBR.out.trans (HBD.out.mono HSR.out)
                go_wp2_with (at_builtin; refine wpList_append_lies _ rfl (.tmp 35) (.tmp 37) 36 rfl w.heap.size 3 i3 (.int .i64 0) 1 8 Tryz.underlying36 hi3 hz30 hz31 hz32 rfl (by decide) (.slice ca k cc) k (rowCells (csL l k)) rfl hown ⟨_, 0, none⟩ 1 1 [.int .i64 (cS l k : Int)] rfl rfl (news_new1 _ (.int .i64 (cS l k : Int)) 3) (by simp [Value.oneCell']) (by decide) (by unfold maxLen; omega) (by omega) (by have := HSD.out; simp; omega) _ rfl ?_)
                intro g5 cap5 w6 hown5 hgrow5 hloc5 hg5
                have HO6 : Hid (w6.ownsRow w.heap.size 3 1 (.slice (some ⟨g5, 0, none⟩) (k + 1) cap5) (k + 1) (rowCells (csL l (k + 1)))) := by show World.ownsRow _ _ _ _ _ _ _; rw [show rowCells (csL l (k + 1)) = rowCells (csL l k) ++ [.int .i64 (cS l k : Int)] from rowCells_snoc _ _]; exact hown5
                have HB6 : Hid (Below w.heap.size w w6) := (HBW.alloc (by have := HSD.out; omega) _).trans (own_grown hgrow5 (fun c hc => (hlt9 c hc).1) (by have := HSD.out; simp; omega))
                clear hown hlt9 hown5 hgrow5 hloc5 hg5 HBW
                go_wp2
                go_roundw
                case rel => exact ⟨k + 1, by go_num, by omega, HO6, HB6⟩
                case measure => simp [intOf]; omega
        · rw [show decide (q = 0) = false from decide_eq_false hq0]
          have HC0 : Hid (cJ l ks 0 = 0) := by show (if ks.length = 0 then 1 else 0) = _; rw [if_neg (by rw [HKL.out]; exact hq0)]
          clear hq0
          go_upto_region 8 with fail
          go_cut [21, 22, 23] (fun s m z wd => ∃ a' c', s = .slice a' q c' ∧ m = .int .i64 q ∧ z = .int .i64 0 ∧ Hid (RowIn 0 wd.heap.size wd a' ks) ∧ Hid (Below wr.heap.size wr wd))
          case first =>
            have HRC : Hid (RowIn lo hi wc ra ks) := HRW.out.below HBC.out (Nat.le_trans HH.out HSR.out)
            have HSC : Hid (wr.heap.size ≤ wc.heap.size) := HBC.out.size
            rcases formOk_cases HF.out with ⟨rfl, h3, h4⟩ | ⟨rfl, rfl, h4⟩ | ⟨rfl, rfl, h4⟩ | ⟨rfl, rfl, h4⟩ | ⟨rfl, rfl, h4⟩ | ⟨rfl, rfl, h4⟩
            · have hv : v1 = .iface 142 (.agg #[.int .u8 y]) := HV.out
              subst hv
              have HKN : Hid (ks = []) := List.length_eq_zero_iff.1 h4
              obtain rfl : q = 0 := by have := HKL.out; omega
              go_wp2_with fail
              refine (kidsStep_any y wc).mono ?_
              rintro e w2 ⟨rfl, HB2⟩
              go_wp2_with fail
              go_meet
              case rel => exact ⟨none, 0, rfl, rfl, rfl, .inl HKN.out, HBC.out.trans (HB2.out.mono HSC.out)⟩
            · have hv : v1 = .iface 147 (.agg #[.slice ra q rc]) := by rw [HV.out, ← HKL.out]; rfl
              subst hv
              have hq2 : 2 ≤ q := by have := HKL.out; omega
              have hq3 : ¬ (q : Int) = 0 := by omega
              have hq4 : ((q : Int) == 0) = false := by simpa using hq3
              go_wp2_with fail
              rw [types144]
              refine (kidsMany_any ra q rc wc).mono ?_
              rintro e w2 ⟨rfl, HB2⟩
              go_wp2_with fail
              go_meet
              case rel => exact ⟨ra, rc, rfl, rfl, rfl, (HRC.out.below HB2.out (by have := HH.out; have := HSR.out; have := HSC.out; omega)).wide (Nat.zero_le _) (by have := HH.out; have := HSR.out; have := HSC.out; have := HB2.out.size; omega), HBC.out.trans (HB2.out.mono HSC.out)⟩
            · have hv : v1 = .iface 149 (.agg #[.slice ra q rc]) := by rw [HV.out, ← HKL.out]; rfl
              subst hv
              have hq2 : 2 ≤ q := by have := HKL.out; omega
              have hq3 : ¬ (q : Int) = 0 := by omega
              have hq4 : ((q : Int) == 0) = false := by simpa using hq3
              go_wp2_with fail
              rw [types144]
              refine (kidsMany_any ra q rc wc).mono ?_
              rintro e w2 ⟨rfl, HB2⟩
              go_wp2_with fail
              go_meet
              case rel => exact ⟨ra, rc, rfl, rfl, rfl, (HRC.out.below HB2.out (by have := HH.out; have := HSR.out; have := HSC.out; omega)).wide (Nat.zero_le _) (by have := HH.out; have := HSR.out; have := HSC.out; have := HB2.out.size; omega), HBC.out.trans (HB2.out.mono HSC.out)⟩
            · obtain ⟨v, HVV⟩ : ∃ v, Hid (v = ks.getD 0 0) := ⟨_, rfl⟩
              have hv : v1 = .iface 154 (.agg #[.int .i64 v]) := by rw [HV.out, HVV.out]; rfl
              subst hv
              have HKN : Hid (ks = [v]) := one_row h4 HVV.out
              obtain rfl : q = 1 := by have := HKL.out; omega
              go_wp2_with fail
              rw [types149]
              refine (kidsOne_any v wc).mono ?_
              rintro e w2 ⟨g2, rfl, HG2, HB2⟩
              go_wp2_with fail
              go_meet
              case rel => exact ⟨some ⟨g2, 0, none⟩, 1, rfl, rfl, rfl, by rw [HKN.out]; exact HG2, HBC.out.trans (HB2.out.mono HSC.out)⟩
            · obtain ⟨v, HVV⟩ : ∃ v, Hid (v = ks.getD 0 0) := ⟨_, rfl⟩
              have hv : v1 = .iface 155 (.agg #[.int .i64 v]) := by rw [HV.out, HVV.out]; rfl
              subst hv
              have HKN : Hid (ks = [v]) := one_row h4 HVV.out
              obtain rfl : q = 1 := by have := HKL.out; omega
              go_wp2_with fail
              rw [types149]
              refine (kidsOne_any v wc).mono ?_
              rintro e w2 ⟨g2, rfl, HG2, HB2⟩
              go_wp2_with fail
              go_meet
              case rel => exact ⟨some ⟨g2, 0, none⟩, 1, rfl, rfl, rfl, by rw [HKN.out]; exact HG2, HBC.out.trans (HB2.out.mono HSC.out)⟩
            · obtain ⟨v, HVV⟩ : ∃ v, Hid (v = ks.getD 0 0) := ⟨_, rfl⟩
              have hv : v1 = .iface 156 (.agg #[.int .i64 v]) := by rw [HV.out, HVV.out]; rfl
              subst hv
              have HKN : Hid (ks = [v]) := one_row h4 HVV.out
              obtain rfl : q = 1 := by have := HKL.out; omega
              go_wp2_with fail
              rw [types149]
              refine (kidsOne_any v wc).mono ?_
              rintro e w2 ⟨g2, rfl, HG2, HB2⟩
              go_wp2_with fail
              go_meet
              case rel => exact ⟨some ⟨g2, 0, none⟩, 1, rfl, rfl, rfl, by rw [HKN.out]; exact HG2, HBC.out.trans (HB2.out.mono HSC.out)⟩
          case rest =>
            obtain ⟨a', c', rfl, rfl, rfl, HRI, HBD⟩ := hcut
            go_wp2
            go_loopw [23, 6] (fun i v we => ∃ j : Nat, i = .int .i64 (j : Int) ∧ v = .int .i64 (cJ l ks j : Int) ∧ j ≤ q ∧ we = wc) (fun i _ _ => q - (intOf i).toNat)
            case atStart => exact ⟨0, rfl, by rw [HC0.out]; rfl, by omega, rfl⟩
            case round =>
              obtain ⟨j, rfl, rfl, hj, rfl⟩ := hrel
              by_cases hjq : j < q
              · have hj1 : (j : Int) < (q : Int) := by omega
                have hj0 : (0 : Int) ≤ (j : Int) := by omega
                obtain ⟨z, hz, hzk⟩ := HKO.out j hjq
                obtain ⟨rb, ro, rfl, hr⟩ := HRI.out.num (i := j) (by rw [HKL.out]; exact hjq)
                rw [hz] at hr
                obtain ⟨cg, rfl, _, hcl, hcc⟩ := HCC.out (by omega)
                have hcz := cell_below (hcc z hzk) HBD.out hcl
                rw [show (rowCells (csL l k)).getD z (.int .i64 0) = .int .i64 (cS l z : Int) by rw [← csL_at l hzk]; simp [rowCells, List.getD, csL_len, hzk]] at hcz
                obtain ⟨p, HP⟩ : ∃ p, Hid (p = cJ l ks j) := ⟨_, rfl⟩
                obtain ⟨c, HCS⟩ : ∃ c, Hid (c = cS l z) := ⟨_, rfl⟩
                rw [← HP.out]
                rw [← HCS.out] at hcz
                have hple : p ≤ 24 := by rw [HP.out]; exact cJ_le _ _ _
                have hcle : c ≤ 24 := by rw [HCS.out]; exact cS_le _ _
                have HNX : Hid (cJ l ks (j + 1) = min (p + c) 24) := by show _ = _; show min (cJ l ks j + cS l (ks.getD j 0).toNat) 24 = _; rw [HP.out, HCS.out, hz, show ((z : Int)).toNat = z by omega]
                have hz0 : (0 : Int) ≤ (z : Int) := by omega
                have hz1 : (z : Int) < (k : Int) := by omega
                have hw1 : IntKind.i64.wrap ((p : Int) + (c : Int)) = (p : Int) + (c : Int) := by simp [IntKind.wrap, IntKind.bits, IntKind.signed]; omega
                clear hz hcc hcl
                go_wp2
                go_roundw
                case rel => exact ⟨j + 1, by go_num, by rw [HNX.out]; congr 1; omega, by omega, by first | rfl | trivial⟩
                case measure => simp [intOf]; omega
              · obtain rfl : j = q := by omega
                have HE : Hid (cJ l ks j = cS l k) := HCJ.out
                rw [HE.out]
                have hown := (own_below HO.out HBD.out).alloc (.cells #[.int .i64 (cS l k : Int)] 3)
                have hlt9 := hown.lt
                have HSD : Hid (w.heap.size ≤ wr.heap.size) := Nat.le_trans HSR.out HBD.out.size
                have HBW := HBR.out.trans (HBD.out.mono HSR.out)
                go_wp2_with (at_builtin; refine wpList_append_lies _ rfl (.tmp 35) (.tmp 37) 36 rfl w.heap.size 3 i3 (.int .i64 0) 1 8 Tryz.underlying36 hi3 hz30 hz31 hz32 rfl (by decide) (.slice ca k cc) k (rowCells (csL l k)) rfl hown ⟨_, 0, none⟩ 1 1 [.int .i64 (cS l k : Int)] rfl rfl (news_new1 _ (.int .i64 (cS l k : Int)) 3) (by simp [Value.oneCell']) (by decide) (by unfold maxLen; omega) (by omega) (by have := HSD.out; simp; omega) _ rfl ?_)
                intro g5 cap5 w6 hown5 hgrow5 hloc5 hg5
                have HO6 : Hid (w6.ownsRow w.heap.size 3 1 (.slice (some ⟨g5, 0, none⟩) (k + 1) cap5) (k + 1) (rowCells (csL l (k + 1)))) := by show World.ownsRow _ _ _ _ _ _ _; rw [show rowCells (csL l (k + 1)) = rowCells (csL l k) ++ [.int .i64 (cS l k : Int)] from rowCells_snoc _ _]; exact hown5
                have HB6 : Hid (Below w.heap.size w w6) := (HBW.alloc (by have := HSD.out; omega) _).trans (own_grown hgrow5 (fun c hc => (hlt9 c hc).1) (by have := HSD.out; simp; omega))
                clear hown hlt9 hown5 hgrow5 hloc5 hg5 HBW
                go_wp2
                go_roundw
                case rel => exact ⟨k + 1, by go_num, by omega, HO6, HB6⟩
                case measure => simp [intOf]; omega
    · obtain rfl : k = n := by omega
      obtain ⟨cg, rfl, _, hcl, hcc⟩ := HCC.out (by omega)
      obtain ⟨m, rfl⟩ : ∃ m, k = m + 1 := ⟨k - 1, by omega⟩
      have hcz := hcc m (by omega)
      rw [show (rowCells (csL l (m + 1))).getD m (.int .i64 0) = .int .i64 (cS l m : Int) by rw [← csL_at l (Nat.lt_succ_self m)]; simp [rowCells, List.getD, csL_len]] at hcz
      have hk1 : ((m + 1 : Nat) : Int) - 1 = (m : Int) := by omega
      have hm0 : (0 : Int) ≤ (m : Int) := by omega
      have hm1 : (m : Int) < ((m + 1 : Nat) : Int) := by omega
      have hm2 : (m : Int) < (m : Int) + 1 := by omega
      clear hcc hcl
      go_wp2
      go_ret
      exact ⟨rfl, HBR.out⟩
end Go.Proofs.YtbepmeipjdpipaaGreat
