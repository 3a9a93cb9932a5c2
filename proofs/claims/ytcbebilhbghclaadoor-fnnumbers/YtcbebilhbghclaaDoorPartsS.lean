/-
  spec.PartsOf.
-/
import Derived.Test.YtcbebilhbghclaaDoorParts
namespace Go.Proofs.YtcbebilhbghclaaDoor
open Go.RowKit

/-- what PartsOf answers: the parts and true of a line, nothing and false of what is none -/
def PartsPost (s : ByteArray) (w : World) (e : Ending) (w' : World) : Prop :=
  ((isLine s ∧ ∃ v, e = .returned (.tuple #[v, .bool true]) ∧ w'.ownsRow w.heap.size 9 1 v (partsL s).length ((partsL s).map tv)) ∨
   (¬ isLine s ∧ ∃ v, e = .returned (.tuple #[v, .bool false]) ∧ w'.ownsRow w.heap.size 9 1 v 0 [])) ∧ Below w.heap.size w w'

theorem not_line (s : ByteArray) (i : Nat) (hlt : i < s.size) (hc : ¬ okB s[i]) : ¬ isLine s := by
  intro h
  have hl : i < s.data.toList.length := by have : s.data.size = s.size := rfl; simp; omega
  exact hc (h.shown s.data.toList[i] (List.getElem_mem hl))
theorem PEnd.len {w wr : World} {s : ByteArray} {v : Value} {n : Nat} (h : PEnd w s v n wr) : n = (partsL s).length := by
  have := h.own.1; simp at this; omega
theorem PEnd.form {w wr : World} {s : ByteArray} {v : Value} {n : Nat} (h : PEnd w s v n wr) : ∃ ao cap, v = .slice ao n cap := by
  rcases h.own.2 with ⟨rfl, rfl⟩ | ⟨g, cap, _, rfl, _⟩ <;> exact ⟨_, _, rfl⟩
theorem PEnd.line {w wr : World} {s : ByteArray} {v : Value} {n : Nat} (h : PEnd w s v n wr) (hs : s.size ≤ 600) : isLine s ↔ n ≤ 10 := by
  rw [h.len]
  constructor
  · intro hl; have := hl.few; simp [partsL]; exact this
  · intro hl; exact ⟨hs, h.shown, by simpa [partsL] using hl⟩

set_option maxHeartbeats 2000000 in
set_option maxRecDepth 100000 in
theorem sParts_any (s : ByteArray) (w : World) (hs : s.size ≤ 600) :
    Calls Tryd.prog 20 #[.string s] w fun e w' => PartsPost s w e w' := by
  obtain ⟨i0, hi, hz0, hz1, hz2⟩ := info_parts Tryd.info9
  go_enter Tryd.func20, Tryd.ntmps20
  go_wp2
  go_loopw [4, 5, 6] (fun v p q wr => ∃ b i : Nat, p = .int .i64 b ∧ q = .int .i64 i ∧ ((∃ n l, PAt w s b i v n l wr) ∨ (i = s.size + 1 ∧ ∃ n, PEnd w s v n wr))) (fun _ _ q _ => s.size + 2 - (intOf q).toNat)
  case atStart => exact ⟨0, 0, rfl, rfl, .inl ⟨0, [], by omega, by omega, by omega, World.ownsRow_made w #[] 0 (Nat.le_refl _) (Nat.zero_le _) rfl, by simp [piece, Lib.fields], by simp, (Below.refl _ _).alloc (Nat.le_refl _) _⟩⟩
  case round =>
    obtain ⟨b, i, rfl, rfl, ⟨n, l, hP⟩ | ⟨hie, n, hE⟩⟩ := hrel
    · have HP : Hid (PAt w s b i u4 n l wr) := hP
      have hle := hP.le
      have hbeg := hP.beg
      have hcnt := hP.cnt
      have hown := hP.own
      have hsz := hP.bel.size
      clear hP
      by_cases hlt : i < s.size
      · have hlt1 : (i : Int) < (s.size : Int) := by omega
        have hc : (s[i].toNat : Int) < 256 := by have := s[i].toNat_lt; omega
        by_cases h1 : (s[i].toNat : Int) < 32
        · have HN : Hid (¬ isLine s) := not_line s i hlt (by unfold okB; omega)
          go_wp2
          go_ret2
          exact ⟨.inr ⟨HN.out, _, rfl, World.ownsRow_made wr #[] 0 hsz (Nat.zero_le _) rfl⟩, HP.out.bel.alloc hsz _⟩
        · by_cases h2 : (126 : Int) < (s[i].toNat : Int)
          · have HN : Hid (¬ isLine s) := not_line s i hlt (by unfold okB; omega)
            go_wp2
            go_ret2
            exact ⟨.inr ⟨HN.out, _, rfl, World.ownsRow_made wr #[] 0 hsz (Nat.zero_le _) rfl⟩, HP.out.bel.alloc hsz _⟩
          · have HC : Hid (okB s[i]) := ⟨by omega, by omega⟩
            by_cases h3 : s[i].toNat = 32
            · have hne : ((s[i].toNat : Int) != 32) = false := by simp; omega
              have H3 : Hid (s[i].toNat = 32) := h3
              clear h3
              by_cases hb : b < i
              · have hb1 : (b : Int) < (i : Int) := by omega
                have hb2 : (i : Int) ≤ (s.size : Int) := by omega
                have hb3 : (b : Int) ≤ (i : Int) := by omega
                go_wp2_with (at_builtin; refine wpList_append_lies _ rfl (.tmp 48) (.tmp 53) 38 rfl w.heap.size 9 i0 (.string ⟨#[]⟩) 1 16 Tryd.underlying38 hi hz0 hz1 hz2 rfl (by decide) _ n ((l.map tx).map tv) rfl (hown.alloc _) ⟨wr.heap.size, 0, none⟩ 1 1 [.string (s.extract b i)] rfl rfl (cell_one_new _ _ _) (by simp [Value.oneCell']) (by decide) (by unfold maxLen; omega) (by omega) (by simp; omega) _ rfl ?_; intro g cap w1 hown1 hgrow1 _ _)
                go_roundw
                case rel => exact ⟨i + 1, i + 1, by go_num, by go_num, .inl ⟨n + 1, _, HP.out.part hb hlt HC.out H3.out hown1 hgrow1⟩⟩
                case measure => simp [intOf]; omega
              · obtain rfl : b = i := by omega
                go_wp2
                go_roundw
                case rel => exact ⟨b + 1, b + 1, by go_num, by go_num, .inl ⟨n, l, HP.out.blank hlt HC.out H3.out⟩⟩
                case measure => simp [intOf]; omega
            · have hne : ((s[i].toNat : Int) != 32) = true := by simp; omega
              have H3 : Hid (s[i].toNat ≠ 32) := h3
              clear h3
              go_wp2
              go_roundw
              case rel => exact ⟨b, i + 1, rfl, by go_num, .inl ⟨n, l, HP.out.letter hlt HC.out H3.out⟩⟩
              case measure => simp [intOf]; omega
      · have hie : i = s.size := by omega
        have hlt1 : ¬ (i : Int) < (s.size : Int) := by omega
        by_cases hb : b < i
        · have hb1 : (b : Int) < (i : Int) := by omega
          have hb2 : (i : Int) ≤ (s.size : Int) := by omega
          have hb3 : (b : Int) ≤ (i : Int) := by omega
          have HI : Hid (i = s.size) := hie
          clear hie
          go_wp2_with (at_builtin; refine wpList_append_lies _ rfl (.tmp 48) (.tmp 53) 38 rfl w.heap.size 9 i0 (.string ⟨#[]⟩) 1 16 Tryd.underlying38 hi hz0 hz1 hz2 rfl (by decide) _ n ((l.map tx).map tv) rfl (hown.alloc _) ⟨wr.heap.size, 0, none⟩ 1 1 [.string (s.extract b i)] rfl rfl (cell_one_new _ _ _) (by simp [Value.oneCell']) (by decide) (by unfold maxLen; omega) (by omega) (by simp; omega) _ rfl ?_; intro g cap w1 hown1 hgrow1 _ _)
          go_roundw
          case rel => exact ⟨i + 1, i + 1, by go_num, by go_num, .inr ⟨by rw [HI.out], n + 1, HP.out.end_part hb hlt hown1 hgrow1⟩⟩
          case measure => have := HI.out; simp [intOf]; omega
        · obtain rfl : b = i := by omega
          have HI : Hid (b = s.size) := hie
          clear hie
          have hb2 : (b : Int) ≤ (s.size : Int) := by omega
          go_wp2
          go_roundw
          case rel => exact ⟨b + 1, b + 1, by go_num, by go_num, .inr ⟨by rw [HI.out], n, HP.out.end_none hlt⟩⟩
          case measure => have := HI.out; simp [intOf]; omega
    · obtain ⟨ao, cap, rfl⟩ := hE.form
      have HE : Hid (PEnd w s (.slice ao n cap) n wr) := hE
      have hline := hE.line hs
      have HL : Hid (isLine s ↔ n ≤ 10) := hline
      have hsz := hE.bel.size
      have hlt1 : ¬ (i : Int) ≤ (s.size : Int) := by omega
      clear hE hline hie
      by_cases hn : (10 : Int) < (n : Int)
      · go_wp2
        go_ret2
        exact ⟨.inr ⟨fun h => by have := HL.out.1 h; omega, _, rfl, World.ownsRow_made wr #[] 0 hsz (Nat.zero_le _) rfl⟩, HE.out.bel.alloc hsz _⟩
      · go_wp2
        go_ret2
        exact ⟨.inl ⟨HL.out.2 (by omega), _, rfl, by rw [← HE.out.len]; exact HE.out.own⟩, HE.out.bel⟩

set_option maxHeartbeats 400000 in
theorem sParts_long (s : ByteArray) (w : World) (hs : (600 : Int) < (s.size : Int)) :
    Calls Tryd.prog 20 #[.string s] w fun e w' => PartsPost s w e w' := by
  have HN : Hid (¬ isLine s) := fun h => by have := h.short; omega
  go_enter Tryd.func20, Tryd.ntmps20
  go_wp2
  go_ret2
  exact ⟨.inr ⟨HN.out, _, rfl, World.ownsRow_made w #[] 0 (Nat.le_refl _) (Nat.zero_le _) rfl⟩, (Below.refl _ _).alloc (Nat.le_refl _) _⟩
end Go.Proofs.YtcbebilhbghclaaDoor
