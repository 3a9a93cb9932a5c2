/-
  impl.BagEach; the model's l03Copy and BagEach.
-/
import Derived.Test.YtijbngdafgmpaaaCopy
namespace Go.Proofs.Ytijbngdafgmpaaa
open Go.RowKit

set_option maxHeartbeats 2000000 in
set_option maxRecDepth 100000 in
theorem bagEach_any (lo hi : Nat) (a : Option Addr) (n cap : Nat) (l : List It) (w : World) (ha : BagIn lo hi w a l) (hh : hi ≤ w.heap.size) (hn : l.length = n) (hm : n ≤ 1048576) (hq : ∀ i, i < n → (at' l i).1.length ≤ 1048576) :
    Calls Try.prog 30 #[.agg #[.slice a n cap]] w fun e w' => ∃ a' cap', e = .returned (.agg #[.slice a' n cap']) ∧ Hid (BagOwn w.heap.size w'.heap.size w' a' (eachOf l)) ∧ Hid (Below w.heap.size w w') := by
  have HN : Hid (l.length = n) := hn
  have HA : Hid (BagIn lo hi w a l) := ha
  have HH : Hid (hi ≤ w.heap.size) := hh
  have HQ : Hid (∀ i, i < n → (at' l i).1.length ≤ 1048576) := hq
  clear ha hh hn hq
  go_enter Try.func30, Try.ntmps30
  go_wp2_with fail
  refine (newBag_any lo hi a n cap l _ (HA.out.below (below2 w _ _) HH.out) (by have := HH.out; simp; omega) HN.out hm HQ.out).mono ?_
  rintro e w1 ⟨a1, cap1, rfl, H1, H2⟩
  have hb1 := H2.out
  have HK1 : Hid (Blk w1 (w.heap.size + 1) 1 (fun _ => .slice none 0 0)) := (blk_one (w.alloc (.cells #[.slice a n cap] 26)) (w.heap.size + 1) (by simp) (.slice none 0 0) 26).of_block (hb1.block (w.heap.size + 1) (by simp))
  have HB1 : Hid (Below w.heap.size w w1) := (below2 w _ _).trans (hb1.mono (by simp; omega))
  have HP1 : Hid (BagOwn (w.heap.size + 1 + 1) w1.heap.size w1 a1 l) := by
    have h := H1.out
    simp only [World.size_alloc] at h
    exact h
  clear hb1 H1 H2
  by_cases h0 : n = 0
  · subst h0
    go_wp2
    go_loopw [10] (fun i wr => i = .int .i64 0 ∧ Hid (Below w.heap.size w wr) ∧ Hid (Blk wr (w.heap.size + 1) 1 (fun _ => .slice none 0 0)) ∧ Hid (Blk wr w1.heap.size 1 (fun _ => .slice a1 0 cap1))) (fun _ _ => 0)
    case atStart => exact ⟨rfl, HB1.out.alloc HB1.out.size _, HK1.out.alloc _, blk_one w1 _ rfl _ _⟩
    case round =>
      obtain ⟨rfl, HL, HK, HX⟩ := hrel
      have cx := HX.out.cell (i := 0) (by omega)
      have c1 := HK.out.cell (i := 0) (by omega)
      have f1 := HK.out.frozen 0
      go_wp2
      refine bodyPost_ret (v := .agg #[.slice a1 0 cap1]) (by simp [results, Try.results30, go_sem, c1]) rfl ?_
      have hl : l = [] := List.length_eq_zero_iff.1 HN.out
      exact ⟨a1, cap1, rfl, .inl (by rw [hl]; rfl), HL.out.setCell (by simp) _⟩
  · obtain ⟨g, rfl, hg1, hg2, hp⟩ : ∃ g, a1 = some ⟨g, 0, none⟩ ∧ w.heap.size + 1 + 1 ≤ g ∧ g < w1.heap.size ∧ PartOwn (w.heap.size + 1 + 1) w1.heap.size w1 g l l.length l.length := by
      rcases HP1.out with h | h
      · exact absurd HN.out (by rw [h]; simp; omega)
      · exact h
    have HG : Hid (w.heap.size + 1 + 1 ≤ g ∧ g < w1.heap.size) := ⟨hg1, hg2⟩
    have HP0 : Hid (PartOwn (w.heap.size + 1 + 1) w1.heap.size w1 g (eachTo l 0) n n) := by rw [eachTo_zero, ← HN.out]; exact hp
    clear hg1 hg2 hp HP1
    go_wp2
    go_loopw [10] (fun i wr => ∃ k : Nat, i = .int .i64 k ∧ k ≤ n ∧ Hid (PartOwn (w.heap.size + 1 + 1) w1.heap.size wr g (eachTo l k) n n) ∧ Hid (Below w.heap.size w wr) ∧ Hid (Blk wr (w.heap.size + 1) 1 (fun _ => .slice none 0 0)) ∧ Hid (Blk wr w1.heap.size 1 (fun _ => .slice (some ⟨g, 0, none⟩) n cap1))) (fun i _ => n - (intOf i).toNat)
    case atStart =>
      refine ⟨0, rfl, by omega, ?_, HB1.out.alloc HB1.out.size _, HK1.out.alloc _, blk_one w1 _ rfl _ _⟩
      exact HP0.out.below (below1' w1 _) (Nat.le_refl _) HG.out.2
    case round =>
      obtain ⟨k, rfl, hk, HP, HL, HK, HX⟩ := hrel
      have cx := HX.out.cell (i := 0) (by omega)
      by_cases hlt : k < n
      · have hlt1 : (k : Int) < (n : Int) := by omega
        obtain ⟨f, R, C, hblk, _⟩ := HP.out
        have hd1 := hblk.cell (i := k * 2 + 1) (by omega)
        have hf1 := hblk.frozen (k * 2 + 1)
        clear hblk
        go_wp2
        go_roundw
        case rel =>
          have hg := HG.out
          refine ⟨k + 1, by go_num, by omega, HP.out.each HN.out hlt, HL.out.setCell (by simp; omega) _, HK.out.of_block (Below.heap_setCell _ _ _ _ (by simp; omega)), HX.out.of_block (Below.heap_setCell _ _ _ _ (by simp; omega))⟩
        case measure => simp [intOf]; omega
      · obtain rfl : k = n := by omega
        have c1 := HK.out.cell (i := 0) (by omega)
        have f1 := HK.out.frozen 0
        go_wp2
        refine bodyPost_ret (v := .agg #[.slice (some ⟨g, 0, none⟩) k cap1]) (by simp [results, Try.results30, go_sem, c1]) rfl ?_
        refine ⟨_, cap1, rfl, ?_, HL.out.setCell (by simp) _⟩
        have hg := HG.out
        have hsz := HX.out.lt
        have hown : BagOwn (w.heap.size + 1 + 1) w1.heap.size wr (some ⟨g, 0, none⟩) (eachOf l) := by
          refine .inr ⟨g, rfl, hg.1, hg.2, ?_⟩
          rw [← eachTo_all, eachTo_len, HN.out]; exact HP.out
        exact (hown.setCell (by omega) _).wide (by omega) (by simp; omega)

/-- a row's block is not that of the list -/
def Off (v : Value) (ra : Option Addr) (r : List Int) : Prop := r ≠ [] → ∀ c o, ra = some ⟨c, o, none⟩ → v.ownBlock ≠ some c

/-- the items that a call has laid one behind the other -/
def Laid (B : Nat) (w : World) (v : Value) (l : List It) : Prop :=
  ∃ (f : Nat → Value) (R : Nat → Option Addr) (C : Nat → Nat), w.ownsRow B 35 2 v l.length ((List.range (l.length * 2)).map f) ∧
    ∀ i, i < l.length → (f (i * 2) = .slice (R i) (at' l i).1.length (C i) ∧ f (i * 2 + 1) = .int .i64 (at' l i).2) ∧ RowIn B w.heap.size w (R i) (at' l i).1 ∧ Off v (R i) (at' l i).1

theorem Laid.toIn {B : Nat} {w : World} {v : Value} {l : List It} (h : Laid B w v l) : ∃ a cap, v = .slice a l.length cap ∧ BagIn B w.heap.size w a l := by
  obtain ⟨f, R, C, h1, h2⟩ := h
  rcases h1.2 with ⟨rfl, h0⟩ | ⟨g, cap, cur, rfl, hg, hb, _⟩
  · exact ⟨none, 0, by rw [h0], .inl (List.length_eq_zero_iff.1 h0)⟩
  · refine ⟨_, cap, rfl, .inr ⟨g, 0, rfl, hg, (Array.getElem?_eq_some_iff.1 hb).1, fun i hi => ?_⟩⟩
    have hk := blk_own h1
    obtain ⟨⟨e1, e2⟩, e3, _⟩ := h2 i hi
    refine ⟨R i, C i, ?_, e3, ?_⟩
    · rw [Nat.zero_add, hk.cell (by omega)]; simp [List.getD, show i * 2 < l.length * 2 by omega, e1]
    · rw [Nat.zero_add, hk.cell (by omega)]; simp [List.getD, show i * 2 + 1 < l.length * 2 by omega, e2]

theorem Laid.nil (B : Nat) (w : World) : Laid B w (.slice none 0 0) [] :=
  ⟨fun _ => .int .i64 0, fun _ => none, fun _ => 0, by simpa using World.ownsRow_nil w B 35 2, fun i hi => absurd hi (by simp)⟩

/-- what lies there lies there when new blocks come, or others are written -/
theorem Laid.kept {B : Nat} {w w' : World} {v : Value} {l : List It} {p : Nat → Prop} (h : Laid B w v l) (hb : KeptP p w w') (hp : ∀ k, p k → k < B) : Laid B w' v l := by
  obtain ⟨f, R, C, h1, h2⟩ := h
  refine ⟨f, R, C, ?_, fun i hi => ⟨(h2 i hi).1, ((h2 i hi).2.1.kept hb (Nat.le_refl _) (fun k hk _ hpk => by have := hp k hpk; omega)).wide (Nat.le_refl _) hb.size, (h2 i hi).2.2⟩⟩
  refine ⟨h1.1, ?_⟩
  rcases h1.2 with h3 | ⟨g, cap, cur, e, h3, h4, h5⟩
  · exact .inl h3
  · exact .inr ⟨g, cap, cur, e, h3, by rw [hb.block g (Array.getElem?_eq_some_iff.1 h4).1 (fun hpk => by have := hp g hpk; omega)]; exact h4, h5⟩
theorem Laid.below {B : Nat} {w w' : World} {v : Value} {l : List It} (h : Laid B w v l) (hb : Below w.heap.size w w') : Laid B w' v l :=
  h.kept (p := fun _ => False) (KeptP.of_below hb (fun _ hk _ => hk)) (fun _ h => h.elim)

theorem owns_below {w w' : World} {B : Nat} {e : TypeId} {s : Nat} {v : Value} {n : Nat} {xs : List Value} (h : w.ownsRow B e s v n xs) (hb : Below w.heap.size w w') : w'.ownsRow B e s v n xs := by
  refine ⟨h.1, ?_⟩
  rcases h.2 with hn | ⟨g, cap, cur, rfl, hg, hh, r⟩
  · exact .inl hn
  · exact .inr ⟨g, cap, cur, rfl, hg, by rw [hb.block g (Array.getElem?_eq_some_iff.1 hh).1]; exact hh, r⟩

/-- one item more behind what lies there -/
theorem Laid.snoc {B : Nat} {w w1 : World} {v v' : Value} {l : List It} {x : It} {f : Nat → Value} {R : Nat → Option Addr} {C : Nat → Nat} {ra : Option Addr} {rc : Nat}
    (h2 : ∀ i, i < l.length → (f (i * 2) = .slice (R i) (at' l i).1.length (C i) ∧ f (i * 2 + 1) = .int .i64 (at' l i).2) ∧ RowIn B w.heap.size w (R i) (at' l i).1 ∧ Off v (R i) (at' l i).1)
    (hr : RowIn B w.heap.size w ra x.1) (hra : Off v ra x.1) (hg : w.grownBy w1 v.ownBlock) (hloc : v'.ownBlock = v.ownBlock ∨ v'.ownBlock = some w.heap.size)
    (ho : w1.ownsRow B 35 2 v' (l.length + 1) ((List.range (l.length * 2)).map f ++ [.slice ra x.1.length rc, .int .i64 x.2])) : Laid B w1 v' (l ++ [x]) := by
  have keep : ∀ {a : Option Addr} {r : List Int}, RowIn B w.heap.size w a r → Off v a r → RowIn B w1.heap.size w1 a r ∧ Off v' a r := by
    intro a r ha hne
    by_cases h0 : r = []
    · exact ⟨.inl h0, fun h => absurd h0 h⟩
    · rcases ha with h | ⟨c, o, e, h3, h4, h5⟩
      · exact absurd h h0
      · refine ⟨.inr ⟨c, o, e, h3, Nat.lt_of_lt_of_le h4 hg.size, fun i hi => ?_⟩, fun _ c2 o2 e2 => ?_⟩
        · rw [← h5 i hi]; unfold World.cell?; rw [hg.block c h4 (fun e2 => hne h0 c o e e2.symm)]
        · rw [e] at e2
          simp only [Option.some.injEq, Addr.mk.injEq] at e2
          obtain ⟨rfl, _⟩ := e2
          rcases hloc with h | h
          · rw [h]; exact hne h0 c o e
          · rw [h]; simp; omega
  have hat : ∀ i, i < l.length → at' (l ++ [x]) i = at' l i := fun i hi => by simp [at', List.getD, List.getElem?_append_left hi]
  have hlast : at' (l ++ [x]) l.length = x := by simp [at', List.getD]
  refine ⟨fun j => if j < l.length * 2 then f j else if j = l.length * 2 then .slice ra x.1.length rc else .int .i64 x.2, fun i => if i < l.length then R i else ra, fun i => if i < l.length then C i else rc, ?_, fun i hi => ?_⟩
  · have e1 : (l ++ [x]).length = l.length + 1 := by simp
    rw [e1]
    have e2 : (List.range ((l.length + 1) * 2)).map (fun j => if j < l.length * 2 then f j else if j = l.length * 2 then Value.slice ra x.1.length rc else .int .i64 x.2) = (List.range (l.length * 2)).map f ++ [.slice ra x.1.length rc, .int .i64 x.2] := by
      rw [show (l.length + 1) * 2 = l.length * 2 + 1 + 1 by omega, List.range_succ, List.range_succ]
      simp only [List.map_append, List.append_assoc]
      congr 1
      · exact List.map_congr_left fun j hj => by simp [List.mem_range.1 hj]
      · simp
        intro h
        omega
    rw [e2]; exact ho
  · simp at hi
    rcases Nat.lt_or_ge i l.length with h | h
    · rw [hat i h]
      obtain ⟨⟨e1, e2⟩, e3, e4⟩ := h2 i h
      simp only [h, if_true]
      exact ⟨⟨by rw [if_pos (by omega)]; exact e1, by rw [if_pos (by omega)]; exact e2⟩, keep e3 e4⟩
    · obtain rfl : i = l.length := by omega
      rw [hlast]
      simp only [Nat.lt_irrefl, if_false]
      exact ⟨⟨by simp, by rw [if_neg (by omega), if_neg (by omega)]⟩, keep hr hra⟩
end Go.Proofs.Ytijbngdafgmpaaa
