/-
  Two drawn rows (spec.DrawRowLess), and FnRowsLess.
-/
import Derived.Test.YtijbngdafgmpaaaBig
import Derived.Test.YtijbngdafgmpaaaApp
namespace Go.Proofs.Ytijbngdafgmpaaa
open Go.RowKit

/-- the cursor, whose bytes lie ahead of it -/
def CurL (p : Nat) (ao : Option Addr) (n cap : Nat) (w : World) : Prop := Cur p ao n cap w ∧ (n = 0 ∨ ∃ b off, ao = some ⟨b, off, none⟩ ∧ b < p)
theorem CurL.below {p n cap B : Nat} {ao : Option Addr} {w w' : World} (h : CurL p ao n cap w) (hb : Below B w w') (hB : p < B) : CurL p ao n cap w' := by
  obtain ⟨⟨i, x, hc⟩, hl⟩ := h
  refine ⟨⟨i, x, (hb.block p hB).trans hc.blk, hc.le, hc.small, ?_⟩, hl⟩
  rcases hc.code with h0 | ⟨b, off, e, h1, h2, h3⟩
  · exact .inl h0
  · rcases hl with h0 | ⟨b', off', e', h4⟩
    · exact .inl h0
    · rw [e] at e'
      simp only [Option.some.injEq, Addr.mk.injEq] at e'
      obtain ⟨rfl, rfl, _⟩ := e'
      exact .inr ⟨b, off, e, h1, Nat.lt_of_lt_of_le h2 hb.size, fun k hk => by
        obtain ⟨z, z0, z1, z2⟩ := h3 k hk
        exact ⟨z, z0, z1, cell_below z2 hb (by omega)⟩⟩
theorem CurL.draw {p n cap : Nat} {ao : Option Addr} {w : World} (h : CurL p ao n cap w) (m : Int) (h0 : 0 < m) (h1 : m ≤ 1000000000) :
    Calls Try.prog 53 #[.pointer (some ⟨p, 0, none⟩), .int .i64 m] w fun e w' => ∃ x : Int, e = .returned (.int .i64 x) ∧ 0 ≤ x ∧ x < m ∧ Hid (CurL p ao n cap w') ∧ Hid (KeptBut p w w') :=
  (below_cur w p n cap ao m h0 h1 h.1).mono fun _ _ ⟨x, e, x0, x1, hc, hk⟩ => ⟨x, e, x0, x1, ⟨hc, h.2⟩, hk⟩
theorem cur_start {w : World} {ao : Option Addr} {n : Nat} (h : CodeIn w ao n) : n = 0 ∨ ∃ b off, ao = some ⟨b, off, none⟩ ∧ b < w.heap.size := by
  rcases h with h | ⟨b, off, e, h1, _⟩
  · exact .inl h
  · exact .inr ⟨b, off, e, h1⟩
theorem KeptBut.owns {g B e s n : Nat} {w w1 : World} {v : Value} {xs : List Value} (h : KeptBut g w w1) (ho : w.ownsRow B e s v n xs) (hB : g < B) : w1.ownsRow B e s v n xs := by
  refine ⟨ho.1, ?_⟩
  rcases ho.2 with hn | ⟨g', cap, cur, rfl, hg, hh, r⟩
  · exact .inl hn
  · exact .inr ⟨g', cap, cur, rfl, hg, by rw [h.block g' (Array.getElem?_eq_some_iff.1 hh).1 (by omega)]; exact hh, r⟩
theorem KeptBut.rowOwn {g lo hi : Nat} {w w1 : World} {a : Option Addr} {l : List Int} (h : KeptBut g w w1) (ho : RowOwn lo hi w a l) (hB : g < lo) : RowOwn lo hi w1 a l := by
  rcases ho with h0 | ⟨b, e, h1, h2, h3⟩
  · exact .inl h0
  · exact .inr ⟨b, e, h1, h2, h3.of_block (h.block b h3.lt (by omega))⟩
theorem RowIn.keptBut {g lo hi : Nat} {w w1 : World} {a : Option Addr} {l : List Int} (h : RowIn lo hi w a l) (hk : KeptBut g w w1) (hB : g < lo) (hh : hi ≤ w.heap.size) : RowIn lo hi w1 a l := by
  rcases h with h0 | ⟨b, o, e, h1, h2, h3⟩
  · exact .inl h0
  · exact .inr ⟨b, o, e, h1, h2, fun i hi => by rw [← h3 i hi]; unfold World.cell?; rw [hk.block b (by omega) (by omega)]⟩

theorem row_snoc {w : World} {B n : Nat} {v : Value} {l : List Int} {x : Int} (h : w.ownsRow B 3 1 v n (rowCells l ++ [.int .i64 x])) : w.ownsRow B 3 1 v n (rowCells (l ++ [x])) := by simpa [rowCells] using h

set_option maxHeartbeats 4000000 in
set_option maxRecDepth 100000 in
theorem drawRow_any (ao : Option Addr) (n cap : Nat) (w : World) (hn : n ≤ 1048576) (hc : CodeIn w ao n) :
    Calls Try.prog 37 #[.slice ao n cap] w fun e w' => ∃ (a b : Option Addr) (na ca nb cb : Nat) (la lb : List Int), e = .returned (.tuple #[.slice a na ca, .slice b nb cb]) ∧ Hid (la.length = na ∧ lb.length = nb ∧ na ≤ 100 ∧ nb ≤ 100 ∧ RowIn 0 w'.heap.size w' a la ∧ RowIn 0 w'.heap.size w' b lb) ∧ Hid (Below w.heap.size w w') := by
  obtain ⟨i0, hi0, hz0, hz1, hz2⟩ := info_parts Try.info3
  have HC : Hid (CodeIn w ao n) := hc
  clear hc
  go_enter Try.func37, Try.ntmps37
  go_wp2_with fail
  refine (new_any w ao n cap hn HC.out).mono ?_
  rintro e w1 ⟨rfl, hc1, hb1⟩
  obtain ⟨p, HP⟩ : ∃ p, Hid (p = w.heap.size) := ⟨_, rfl⟩
  rw [← HP.out] at hc1
  have HC1 : Hid (CurL p ao n cap w1) := ⟨hc1, by rw [HP.out]; exact cur_start HC.out⟩
  have HB1 : Hid (Below p w w1) := by rw [HP.out]; exact hb1
  have HS1 : Hid (p < w1.heap.size) := by obtain ⟨i, h, hcc⟩ := hc1; exact hcc.lt
  rw [← HP.out]
  clear hc1 hb1
  go_wp2
  go_loopw [6, 5] (fun i v wr => ∃ (k : Nat) (l : List Int), i = .int .i64 k ∧ k ≤ 3 ∧ Hid (wr.ownsRow (p + 1) 3 1 v k (rowCells l)) ∧ Hid (l.length = k) ∧ Hid (CurL p ao n cap wr) ∧ Hid (Below p w wr)) (fun i _ _ => 4 - (intOf i).toNat)
  case atStart => exact ⟨0, [], rfl, by omega, World.ownsRow_made w1 #[] 0 HS1.out (Nat.zero_le _) rfl, rfl, HC1.out.below ((Below.refl _ _).alloc (Nat.le_refl _) _) HS1.out, HB1.out.alloc (Nat.le_of_lt HS1.out) _⟩
  case round =>
    obtain ⟨k, l, rfl, hk, HO, HLN, HCU, HL⟩ := hrel
    have hsp : p < wr.heap.size := by obtain ⟨i, h, hcc⟩ := HCU.out.1; exact hcc.lt
    have HSP : Hid (p < wr.heap.size) := hsp
    clear hsp
    go_wp2_with fail
    refine (HCU.out.draw 4 (by omega) (by omega)).mono ?_
    rintro e w2 ⟨x, rfl, hx0, hx1, HC2, HK2⟩
    have HO2 : Hid (w2.ownsRow (p + 1) 3 1 _ k (rowCells l)) := HK2.out.owns HO.out (Nat.lt_succ_self _)
    have HL2 : Hid (Below p w w2) := HL.out.trans (HK2.out.to_below (Nat.le_refl _) (Nat.le_of_lt HSP.out))
    have HSP2 : Hid (p < w2.heap.size) := Nat.lt_of_lt_of_le HSP.out HK2.out.size
    clear HK2 HO HL HCU HSP
    by_cases hlt : (k : Int) < x
    · go_wp2_with fail
      refine (HC2.out.draw 3 (by omega) (by omega)).mono ?_
      rintro e w3 ⟨y, rfl, hy0, hy1, HC3, HK3⟩
      have hown3 := HK3.out.owns HO2.out (Nat.lt_succ_self _)
      have HL3 : Hid (Below p w w3) := HL2.out.trans (HK3.out.to_below (Nat.le_refl _) (Nat.le_of_lt HSP2.out))
      have HSP3 : Hid (p < w3.heap.size) := Nat.lt_of_lt_of_le HSP2.out HK3.out.size
      have HOW : Hid (w3.ownsRow (p + 1) 3 1 _ k (rowCells l)) := hown3
      clear HK3 HO2 HL2 HC2 HSP2
      go_wp2_with (at_builtin; refine wpList_append_lies _ rfl (.tmp 17) (.tmp 20) 29 rfl (p + 1) 3 i0 (.int .i64 0) 1 8 Try.underlying29 hi0 hz0 hz1 hz2 rfl (by decide) _ k (rowCells l) rfl (hown3.alloc _) ⟨w3.heap.size, 0, none⟩ 1 1 [.int .i64 y] rfl rfl (cell_one_new _ _ _) (by simp [Value.oneCell']) (by decide) (by unfold maxLen; omega) (by omega) (by have := HSP3.out; simp; omega) _ rfl ?_; intro g cap4 w4 hown4 hgrow4 _ _)
      go_roundw
      case rel =>
        have hb4 : Below (p + 1) w3 w4 := (((Below.refl _ _).alloc HSP3.out _)).grown hgrow4 (by have := HSP3.out; simp; omega) (fun j hj => (HOW.out.lt j hj).1)
        exact ⟨k + 1, l ++ [y], by go_num, by omega, row_snoc hown4, by show _ = _; rw [List.length_append, HLN.out]; rfl, HC3.out.below hb4 (Nat.lt_succ_self _), HL3.out.trans (hb4.mono (by omega))⟩
      case measure => simp [intOf]; omega
    · obtain ⟨a1, c1, e1, hr1⟩ := rowOwn_of HO2.out HLN.out
      subst e1
      have HR1 : Hid (RowOwn (p + 1) w2.heap.size w2 a1 l) := hr1
      have HRI : Hid (RowIn (p + 1) w2.heap.size w2 a1 l) := hr1.toIn
      have HNB : Hid (Below w2.heap.size w2 (w2.alloc (.cells #[] 3))) := (Below.refl _ _).alloc (Nat.le_refl _) _
      clear hr1 HO2
      go_wp2_with (at_builtin; refine wpList_append_row _ rfl (.tmp 22) (.tmp 23) 29 rfl w2.heap.size 3 i0 (.int .i64 0) 1 8 Try.underlying29 hi0 hz0 hz1 hz2 rfl (by decide) _ 0 [] rfl (World.ownsRow_made w2 #[] 0 (Nat.le_refl _) (Nat.zero_le _) rfl) a1 k c1 (rowCells l) rfl (rowIn_none HRI.out HLN.out) (by rw [rowCells_len, HLN.out]) (rowCells_at (HRI.out.below HNB.out (Nat.le_refl _))) (rowCells_one l) (by unfold maxLen; omega) (by omega) (by simp) ?_; intro v5 w5 hown5 hgrow5)
      have hb25 : Below w2.heap.size w2 w5 := HNB.out.grown hgrow5 (by simp) (by intro j hj; cases hj; exact Nat.le_refl _)
      obtain ⟨a2, c2, rfl, hr2⟩ := rowOwn_of (n := k) (by simpa using hown5) HLN.out
      have HOB : Hid (w5.ownsRow w2.heap.size 3 1 (.slice a2 k c2) k (rowCells l)) := by simpa [Hid] using hown5
      have HRA : Hid (RowIn (p + 1) w2.heap.size w5 a1 l) := HRI.out.below hb25 (Nat.le_refl _)
      have HRB : Hid (RowOwn w2.heap.size w5.heap.size w5 a2 l) := hr2
      have HC5 : Hid (CurL p ao n cap w5) := HC2.out.below hb25 HSP2.out
      have HL5 : Hid (Below p w w5) := HL2.out.trans (hb25.mono (Nat.le_of_lt HSP2.out))
      have HS5 : Hid (w2.heap.size ≤ w5.heap.size) := hb25.size
      clear hown5 hgrow5 hb25 hr2 HNB HRI HR1 HC2 HL2
      go_wp2_with fail
      refine (HC5.out.draw 4 (by omega) (by omega)).mono ?_
      rintro e w6 ⟨d, rfl, hd0, hd1, HC6, HK6⟩
      have HSP5 : Hid (p < w5.heap.size) := Nat.lt_of_lt_of_le HSP2.out HS5.out
      have HRA6 : Hid (RowIn (p + 1) w2.heap.size w6 a1 l) := HRA.out.keptBut HK6.out (Nat.lt_succ_self _) HS5.out
      have HRB6 : Hid (RowOwn w2.heap.size w5.heap.size w6 a2 l) := HK6.out.rowOwn HRB.out HSP2.out
      have HOB6 : Hid (w6.ownsRow w2.heap.size 3 1 (.slice a2 k c2) k (rowCells l)) := HK6.out.owns HOB.out HSP2.out
      have HL6 : Hid (Below p w w6) := HL5.out.trans (HK6.out.to_below (Nat.le_refl _) (Nat.le_of_lt HSP5.out))
      have HS6 : Hid (w5.heap.size ≤ w6.heap.size) := HK6.out.size
      clear HK6 HRA HRB HOB HL5 HC5
      have HPW : Hid (∀ {w'}, Below p w w' → Below w.heap.size w w') := by intro w' h; rw [← HP.out]; exact h
      by_cases d0 : d = 0
      · subst d0
        have hown6 := HOB6.out.alloc (.cells #[.int .i64 1] 3)
        go_wp2_with (at_builtin; refine wpList_append_lies _ rfl (.tmp 29) (.tmp 30) 29 rfl w2.heap.size 3 i0 (.int .i64 0) 1 8 Try.underlying29 hi0 hz0 hz1 hz2 rfl (by decide) _ k (rowCells l) rfl hown6 ⟨w6.heap.size, 0, none⟩ 1 1 [.int .i64 1] rfl rfl (cell_one_new _ _ _) (by simp [Value.oneCell']) (by decide) (by unfold maxLen; omega) (by omega) (by have := HS5.out; have := HS6.out; simp; omega) _ rfl ?_; intro g cap7 w7 hown7 hgrow7 _ _)
        have hb67 : Below w2.heap.size w6 w7 := ((Below.refl _ _).alloc (Nat.le_trans HS5.out HS6.out) _).grown hgrow7 (by have := HS5.out; have := HS6.out; simp; omega) (fun j hj => (HOB6.out.lt j hj).1)
        obtain ⟨a3, c3, e3, hr3⟩ := rowOwn_of (l := l ++ [1]) (row_snoc hown7) (by rw [List.length_append, HLN.out]; rfl)
        simp only [Value.slice.injEq] at e3
        obtain ⟨rfl, _, rfl⟩ := e3
        have hk3 : k ≤ 3 := hk
        go_ret2
        refine ⟨a1, _, k, c1, k + 1, _, l, l ++ [1], rfl, ⟨HLN.out, by rw [List.length_append, HLN.out]; rfl, by omega, by omega, ((HRA6.out.below hb67 (Nat.le_refl _)).wide (Nat.zero_le _) (Nat.le_trans (Nat.le_trans HS5.out HS6.out) hb67.size)), hr3.toIn.wide (Nat.zero_le _) (Nat.le_refl _)⟩, HPW.out (HL6.out.trans (hb67.mono (Nat.le_of_lt HSP2.out)))⟩
      · by_cases d1 : d = 1
        · subst d1
          by_cases hk0 : 0 < k
          · have hk0' : (0 : Int) < (k : Int) := by omega
            go_wp2_with fail
            refine (HC6.out.draw 3 (by omega) (by omega)).mono ?_
            rintro e w7 ⟨y, rfl, hy0, hy1, HC7, HK7⟩
            have HSP6 : Hid (p < w6.heap.size) := Nat.lt_of_lt_of_le HSP5.out HS6.out
            have hra7 := HRA6.out.keptBut HK7.out (Nat.lt_succ_self _) (Nat.le_trans HS5.out HS6.out)
            have hrb7 := HK7.out.rowOwn HRB6.out HSP2.out
            have hl7 := HL6.out.trans (HK7.out.to_below (Nat.le_refl _) (Nat.le_of_lt HSP6.out))
            have hs7 := HK7.out.size
            obtain ⟨gb, rfl, g1, g2, hbk⟩ : ∃ b, a2 = some ⟨b, 0, none⟩ ∧ w2.heap.size ≤ b ∧ b < w5.heap.size ∧ Blk w7 b l.length (fun i => .int .i64 (l.getD i 0)) := by
              rcases hrb7 with h | h
              · exfalso; have := HLN.out; rw [h] at this; simp at this; omega
              · exact h
            have HBK : Hid (Blk w7 gb l.length (fun i => .int .i64 (l.getD i 0))) := hbk
            have HG : Hid (w2.heap.size ≤ gb ∧ gb < w5.heap.size) := ⟨g1, g2⟩
            have HRA7 : Hid (RowIn (p + 1) w2.heap.size w7 a1 l) := hra7
            have HL7 : Hid (Below p w w7) := hl7
            have HS7 : Hid (w6.heap.size ≤ w7.heap.size) := hs7
            have HKL : Hid (0 < l.length) := by show _ < _; rw [HLN.out]; exact hk0
            have cb := hbk.cell (i := 0) HKL.out
            have fb := hbk.frozen 0
            clear hra7 hrb7 hl7 hs7 hbk g1 g2 HK7
            go_wp2
            go_ret2
            have hlen : (l.set 0 y).length = k := by rw [List.length_set]; exact HLN.out
            have hg := HG.out; have hs5 := HS5.out; have hs6 := HS6.out; have hs7 := HS7.out; have hsp := HSP2.out
            refine ⟨a1, _, k, c1, k, c2, l, l.set 0 y, rfl, ⟨HLN.out, hlen, by omega, by omega, ?_, ?_⟩, HPW.out (HL7.out.setCell (by simp; omega) _)⟩
            · refine (RowIn.kept HRA7.out ((KeptP.refl (fun c => c = gb) w7).setCell (g := gb) rfl _) (by omega) (fun c h1 h2 h3 => by omega)).wide (Nat.zero_le _) (by simp; omega)
            · refine (RowOwn.toIn (lo := w2.heap.size) (hi := w5.heap.size) (.inr ⟨gb, rfl, hg.1, hg.2, ?_⟩)).wide (Nat.zero_le _) (by simp; omega)
              rw [List.length_set]
              refine (HBK.out.set 0 HKL.out _).congr fun i hi => ?_
              by_cases e : i = 0
              · subst e; simp [List.getD, HKL.out]
              · simp [List.getD, e, Ne.symm e]
          · have hk0' : ¬ (0 : Int) < (k : Int) := by omega
            go_wp2
            go_ret2
            exact ⟨a1, a2, k, c1, k, c2, l, l, rfl, ⟨HLN.out, HLN.out, by omega, by omega, HRA6.out.wide (Nat.zero_le _) (Nat.le_trans HS5.out HS6.out), HRB6.out.toIn.wide (Nat.zero_le _) HS6.out⟩, HPW.out HL6.out⟩
        · by_cases d2 : d = 2
          · subst d2
            go_wp2_with fail
            refine (HC6.out.draw 3 (by omega) (by omega)).mono ?_
            rintro e w7 ⟨y, rfl, hy0, hy1, HC7, HK7⟩
            have HSP6 : Hid (p < w6.heap.size) := Nat.lt_of_lt_of_le HSP5.out HS6.out
            have HRA7 : Hid (RowIn (p + 1) w2.heap.size w7 a1 l) := HRA6.out.keptBut HK7.out (Nat.lt_succ_self _) (Nat.le_trans HS5.out HS6.out)
            have HL7 : Hid (Below p w w7) := HL6.out.trans (HK7.out.to_below (Nat.le_refl _) (Nat.le_of_lt HSP6.out))
            have HS7 : Hid (w6.heap.size ≤ w7.heap.size) := HK7.out.size
            clear HK7
            go_wp2
            go_ret2
            have hs5 := HS5.out; have hs6 := HS6.out; have hs7 := HS7.out; have hsp := HSP2.out
            refine ⟨a1, _, k, c1, 1, _, l, [y], rfl, ⟨HLN.out, rfl, by omega, by omega, ?_, ?_⟩, HPW.out (HL7.out.alloc (by omega) _)⟩
            · exact (HRA7.out.below ((Below.refl _ w7).alloc (Nat.le_refl _) _) (by omega)).wide (Nat.zero_le _) (by simp; omega)
            · refine .inr ⟨w7.heap.size, 0, rfl, Nat.zero_le _, by simp, fun i hi => ?_⟩
              have hi' : i = 0 := by simpa using hi
              subst hi'
              exact (blk_one w7 _ rfl _ _).cell (i := 0) (by omega)
          · go_wp2
            go_ret2
            exact ⟨a1, a2, k, c1, k, c2, l, l, rfl, ⟨HLN.out, HLN.out, by omega, by omega, HRA6.out.wide (Nat.zero_le _) (Nat.le_trans HS5.out HS6.out), HRB6.out.toIn.wide (Nat.zero_le _) HS6.out⟩, HPW.out HL6.out⟩
end Go.Proofs.Ytijbngdafgmpaaa
