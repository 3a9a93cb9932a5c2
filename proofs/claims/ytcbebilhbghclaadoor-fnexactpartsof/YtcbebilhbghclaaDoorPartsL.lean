/-
  What both PartsOf answer, in one form; the law's walk.
-/
import Derived.Test.YtcbebilhbghclaaDoorPartsI
namespace Go.Proofs.YtcbebilhbghclaaDoor
open Go.RowKit

set_option maxHeartbeats 400000 in
theorem Parts_long (s : ByteArray) (w : World) (hs : (600 : Int) < (s.size : Int)) :
    Calls Tryd.prog 21 #[.string s] w fun e w' => PartsPost s w e w' := by
  have HN : Hid (¬ isLine s) := fun h => by have := h.short; omega
  go_enter Tryd.func21, Tryd.ntmps21
  go_wp2
  go_ret2
  exact ⟨.inr ⟨HN.out, _, rfl, World.ownsRow_nil _ _ _ _⟩, Below.refl _ _⟩

/-- the table of blanks -/
def SpTab (w : World) : Prop := Lib.TabIs Tryd.prog w "strings.asciiSpace" .u8 Lib.asciiSpaceTab

/-- a call of PartsOf hands back these texts, in new memory, and this flag -/
def Gives (f : FuncId) (s : ByteArray) (l : List ByteArray) (ok : Bool) (w : World) : Prop :=
  Calls Tryd.prog f #[.string s] w fun e w' => ∃ v, e = .returned (.tuple #[v, .bool ok]) ∧ w'.ownsRow w.heap.size 9 1 v l.length (l.map tv) ∧ Below w.heap.size w w'

theorem gives (s : ByteArray) : ∃ (l : List ByteArray) (ok : Bool), l.length ≤ 10 ∧ (∀ w, Gives 20 s l ok w) ∧ (∀ w, SpTab w → Gives 21 s l ok w) := by
  have hS : ∀ w, Calls Tryd.prog 20 #[.string s] w fun e w' => PartsPost s w e w' := fun w => by
    by_cases h : s.size ≤ 600
    · exact sParts_any s w h
    · exact sParts_long s w (by omega)
  have hI : ∀ w, SpTab w → Calls Tryd.prog 21 #[.string s] w fun e w' => PartsPost s w e w' := fun w hw => by
    by_cases h : s.size ≤ 600
    · exact Parts_any s w h hw
    · exact Parts_long s w (by omega)
  by_cases hl : isLine s
  · refine ⟨partsL s, true, by have := hl.few; simpa [partsL] using this, fun w => (hS w).mono ?_, fun w hw => (hI w hw).mono ?_⟩
    all_goals
      rintro e w' ⟨⟨_, v, he, ho⟩ | ⟨hn, _⟩, hb⟩
      · exact ⟨v, he, ho, hb⟩
      · exact absurd hl hn
  · refine ⟨[], false, by simp, fun w => (hS w).mono ?_, fun w hw => (hI w hw).mono ?_⟩
    all_goals
      rintro e w' ⟨⟨hy, _⟩ | ⟨_, v, he, ho⟩, hb⟩
      · exact absurd hy hl
      · exact ⟨v, he, ho, hb⟩

theorem gSp : Tryd.prog.globalNamed "strings.asciiSpace" = some 0 := by kernel_rfl
theorem SpTab.pos {w : World} (h : SpTab w) : 0 < w.heap.size := by
  unfold SpTab Lib.TabIs World.var? at h
  simp only [gSp, Option.bind_some] at h
  rcases Nat.lt_or_ge 0 w.heap.size with h1 | h1
  · exact h1
  · rw [Array.getElem?_eq_none h1] at h
    simp at h
theorem SpTab.below {B : Nat} {w w' : World} (h : SpTab w) (hb : Below B w w') (hB : 0 < B) : SpTab w' := var?_below hb gSp hB h

set_option maxHeartbeats 2000000 in
set_option maxRecDepth 100000 in
theorem law_parts (s : ByteArray) (w : World) (hs : s.size ≤ 1048576) (ht : SpTab w) :
    Calls Tryd.prog 6 #[.string s] w fun e w' => e = .returned (.bool true) ∧ Below w.heap.size w w' := by
  obtain ⟨l, ok, hlen, hg1, hg2⟩ := gives s
  obtain ⟨n, hn⟩ : ∃ n, n = l.length := ⟨_, rfl⟩
  have HG1 : Hid (∀ w, Gives 20 s l ok w) := hg1
  have HG2 : Hid (∀ w, SpTab w → Gives 21 s l ok w) := hg2
  have HT : Hid (SpTab w) := ht
  have HN : Hid (n = l.length) := hn
  have hp : 0 < w.heap.size := ht.pos
  have hn10 : n ≤ 10 := by omega
  clear hg1 hg2 ht hn hlen
  go_enter Tryd.func6, Tryd.ntmps6
  go_wp2_with fail
  refine (HG1.out _).mono ?_
  rintro e w1 ⟨v1, rfl, o1, b1⟩
  rw [← HN.out] at o1
  have O1 : Hid (w1.ownsRow w.heap.size 9 1 v1 n (l.map tv)) := o1
  have B1 : Hid (Below w.heap.size w w1) := b1
  clear o1 b1
  go_wp2_with fail
  refine (HG2.out _ (HT.out.below B1.out hp)).mono ?_
  rintro e w2 ⟨v2, rfl, o2, b2⟩
  rw [← HN.out] at o2
  have O2 : Hid (w2.ownsRow w1.heap.size 9 1 v2 n (l.map tv)) := o2
  have B2 : Hid (Below w1.heap.size w1 w2) := b2
  have O12 : Hid (w2.ownsRow w.heap.size 9 1 v1 n (l.map tv)) := own_below O1.out B2.out
  clear o2 b2
  go_wp2_with fail
  refine (eqS_same w1.heap.size w.heap.size n v2 v1 l _ (by omega) O2.out O12.out).mono ?_
  rintro e w3 ⟨rfl, b3⟩
  have B3 : Hid (Below w2.heap.size w2 w3) := b3
  have O23 : Hid (w3.ownsRow w1.heap.size 9 1 v2 n (l.map tv)) := own_below O2.out B3.out
  have O13 : Hid (w3.ownsRow w.heap.size 9 1 v1 n (l.map tv)) := own_below O12.out B3.out
  have C3 : Hid (Below w.heap.size w w3) := (B1.out.trans (B2.out.mono B1.out.size)).trans (B3.out.mono (Nat.le_trans B1.out.size B2.out.size))
  have S13 : Hid (w1.heap.size ≤ w3.heap.size) := Nat.le_trans B2.out.size B3.out.size
  clear b3
  by_cases h0 : n = 0
  · obtain ⟨ao, ca, rfl⟩ : ∃ ao ca, v2 = .slice ao n ca := by rcases O2.out.2 with ⟨rfl, rfl⟩ | ⟨g, cap, _, rfl, _⟩ <;> exact ⟨_, _, rfl⟩
    subst h0
    go_wp2_with fail
    refine (mark_none ao ca _ _).mono ?_
    rintro e w4 ⟨rfl, rfl⟩
    go_wp2_with fail
    refine (held_none ao ca _ _).mono ?_
    rintro e w4 ⟨rfl, rfl⟩
    go_wp2_with fail
    refine (HG2.out _ (HT.out.below C3.out hp)).mono ?_
    rintro e w5 ⟨v3, rfl, o5, b5⟩
    rw [← HN.out] at o5
    have O35 : Hid (w5.ownsRow w3.heap.size 9 1 v3 0 (l.map tv)) := o5
    have B5 : Hid (Below w3.heap.size w3 w5) := b5
    have O15 : Hid (w5.ownsRow w.heap.size 9 1 v1 0 (l.map tv)) := own_below O13.out B5.out
    clear o5 b5
    go_wp2_with fail
    refine (eqS_same w3.heap.size w.heap.size 0 v3 v1 l _ (by omega) O35.out O15.out).mono ?_
    rintro e w6 ⟨rfl, b6⟩
    have B6 : Hid (Below w5.heap.size w5 w6) := b6
    clear b6
    go_wp2_with fail
    refine (held_none ao ca _ _).mono ?_
    rintro e w7 ⟨rfl, rfl⟩
    go_wp2
    go_ret
    exact ⟨rfl, (C3.out.trans (B5.out.mono C3.out.size)).trans (B6.out.mono (Nat.le_trans C3.out.size B5.out.size))⟩
  · obtain ⟨g1, c1, rfl, hg1, hg1'⟩ := O1.out.form (by omega)
    obtain ⟨g2, c2, rfl, hg2, hg2'⟩ := O2.out.form (by omega)
    have hne : g1 ≠ g2 := by omega
    have HNE : Hid (g1 ≠ g2) := hne
    have HG : Hid (w1.heap.size ≤ g2) := hg2
    clear hne hg1 hg1' hg2 hg2' h0
    go_wp2_with fail
    refine (mark_any w1.heap.size g2 c2 n 1 l _ (by omega) (by omega) (by omega) O23.out).mono ?_
    rintro e w4 ⟨rfl, o4, k4⟩
    have O24 : Hid (w4.ownsRow w1.heap.size 9 1 (.slice (some ⟨g2, 0, none⟩) n c2) n ((marks 1 n).map tv)) := o4
    have K4 : Hid (KeptBut g2 w3 w4) := k4
    have O14 : Hid (w4.ownsRow w.heap.size 9 1 (.slice (some ⟨g1, 0, none⟩) n c1) n (l.map tv)) := K4.out.own O13.out (by simp [Value.ownBlock]; exact HNE.out)
    have C4 : Hid (Below w.heap.size w w4) := C3.out.trans ((K4.out.to_below HG.out S13.out).mono B1.out.size)
    clear o4 k4
    go_wp2_with fail
    refine (held_any w1.heap.size g2 c2 n 1 _ (by omega) (by omega) (by omega) O24.out).mono ?_
    rintro e w5 ⟨rfl, b5⟩
    have B5 : Hid (Below w4.heap.size w4 w5) := b5
    have C5 : Hid (Below w.heap.size w w5) := C4.out.trans (B5.out.mono C4.out.size)
    have O25 : Hid (w5.ownsRow w1.heap.size 9 1 (.slice (some ⟨g2, 0, none⟩) n c2) n ((marks 1 n).map tv)) := own_below O24.out B5.out
    have O15 : Hid (w5.ownsRow w.heap.size 9 1 (.slice (some ⟨g1, 0, none⟩) n c1) n (l.map tv)) := own_below O14.out B5.out
    clear b5
    go_wp2_with fail
    refine (HG2.out _ (HT.out.below C5.out hp)).mono ?_
    rintro e w6 ⟨v3, rfl, o6, b6⟩
    rw [← HN.out] at o6
    have O36 : Hid (w6.ownsRow w5.heap.size 9 1 v3 n (l.map tv)) := o6
    have B6 : Hid (Below w5.heap.size w5 w6) := b6
    have O16 : Hid (w6.ownsRow w.heap.size 9 1 (.slice (some ⟨g1, 0, none⟩) n c1) n (l.map tv)) := own_below O15.out B6.out
    have O26 : Hid (w6.ownsRow w1.heap.size 9 1 (.slice (some ⟨g2, 0, none⟩) n c2) n ((marks 1 n).map tv)) := own_below O25.out B6.out
    have C6 : Hid (Below w.heap.size w w6) := C5.out.trans (B6.out.mono C5.out.size)
    clear o6 b6
    go_wp2_with fail
    refine (eqS_same w5.heap.size w.heap.size n v3 _ l _ (by omega) O36.out O16.out).mono ?_
    rintro e w7 ⟨rfl, b7⟩
    have B7 : Hid (Below w6.heap.size w6 w7) := b7
    have O27 : Hid (w7.ownsRow w1.heap.size 9 1 (.slice (some ⟨g2, 0, none⟩) n c2) n ((marks 1 n).map tv)) := own_below O26.out B7.out
    have C7 : Hid (Below w.heap.size w w7) := C6.out.trans (B7.out.mono C6.out.size)
    clear b7
    go_wp2_with fail
    refine (held_any w1.heap.size g2 c2 n 1 _ (by omega) (by omega) (by omega) O27.out).mono ?_
    rintro e w8 ⟨rfl, b8⟩
    have C8 : Hid (Below w.heap.size w w8) := C7.out.trans (b8.mono C7.out.size)
    clear b8
    go_wp2
    go_ret
    exact ⟨rfl, C8.out⟩
end Go.Proofs.YtcbebilhbghclaaDoor
