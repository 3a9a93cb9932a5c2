/-
  Unhex of both packages.
-/
import Derived.Test.YtcbebilhbghclaaFig
import Derived.Lib.Strings
namespace Go.Proofs.Ytcbebilhbghclaa
open Go.RowKit

/-- at the head of each round, at the place i: pre is told -/
structure UAt (w : World) (s : ByteArray) (i : Nat) (v : Value) (wr : World) (k : Nat) (pre : List UInt8) : Prop where
  twice : i = 2 * k
  le : i ≤ s.size
  own : wr.ownsRow w.heap.size 5 1 v k (pre.map bv)
  rel : (unhexL (s.data.toList.drop i)).map (fun r => pre ++ r) = unhexL s.data.toList
  bel : Below w.heap.size w wr

theorem getL (s : ByteArray) (i : Nat) (h : i < s.size) : s.data.toList[i]'(by have : s.data.size = s.size := rfl; simp; omega) = s[i] := rfl

theorem UAt.next {w wr w1 : World} {s : ByteArray} {i k : Nat} {v v1 : Value} {pre : List UInt8} {a b : Nat} {o : Obj} (h : UAt w s i v wr k pre) (hlt : i + 1 < s.size) (ha : hv s[i] = some a) (hb : hv s[i + 1] = some b)
    (ho : w1.ownsRow w.heap.size 5 1 v1 (k + 1) ((pre ++ [UInt8.ofNat (16 * a + b)]).map bv)) (hg : (wr.alloc o).grownBy w1 v.ownBlock) : UAt w s (i + 2) v1 w1 (k + 1) (pre ++ [UInt8.ofNat (16 * a + b)]) := by
  refine ⟨by have := h.twice; omega, by omega, ho, ?_, below_app h.bel h.own hg⟩
  rw [← h.rel, unhex_step s.data.toList i (by have : s.data.size = s.size := rfl; simp; omega) (by rw [getL s i (by omega)]; exact ha) (by rw [getL s (i + 1) hlt]; exact hb)]
  cases unhexL (s.data.toList.drop (i + 2)) <;> simp
theorem UAt.bad {w wr : World} {s : ByteArray} {i k : Nat} {v : Value} {pre : List UInt8} (h : UAt w s i v wr k pre) (hlt : i + 1 < s.size) (hn : hv s[i] = none ∨ hv s[i + 1] = none) : unhexL s.data.toList = none := by
  rw [← h.rel, unhex_bad s.data.toList i (by have : s.data.size = s.size := rfl; simp; omega) (by rw [getL s i (by omega), getL s (i + 1) hlt]; exact hn)]
  rfl
theorem UAt.done {w wr : World} {s : ByteArray} {i k : Nat} {v : Value} {pre : List UInt8} (h : UAt w s i v wr k pre) (hlt : ¬ i < s.size) : unhexL s.data.toList = some pre := by
  rw [← h.rel, List.drop_of_length_le (by have : s.data.size = s.size := rfl; simp; omega)]
  simp [unhexL]
theorem UAt.len {w wr : World} {s : ByteArray} {i k : Nat} {v : Value} {pre : List UInt8} (h : UAt w s i v wr k pre) : pre.length = k := by
  have := h.own.1; simp at this; exact this

def uhRes : Option (List UInt8) → Value
  | none => .tuple #[.string ⟨#[]⟩, .bool false]
  | some l => .tuple #[.string ⟨l.toArray⟩, .bool true]
theorem uh_none {s : ByteArray} (h : unhexL s.data.toList = none) : Ending.returned (.tuple #[.string ⟨#[]⟩, .bool false]) = .returned (uhRes (unhexL s.data.toList)) := by rw [h]; rfl
theorem uh_some {s : ByteArray} {l : List UInt8} (h : unhexL s.data.toList = some l) : Ending.returned (.tuple #[.string ⟨l.toArray⟩, .bool true]) = .returned (uhRes (unhexL s.data.toList)) := by rw [h]; rfl

/-- a slice of bytes of the call's own, of whatever length, made to a string -/
theorem run_string_any {w : World} {base n : Nat} {v : Value} {l : List UInt8} (h : w.ownsRow base 5 1 v n (l.map bv)) :
    (convert 34 9 v).run Try.prog w = .ok (.string ⟨l.toArray⟩) w := by
  rcases h.2 with ⟨rfl, hn⟩ | ⟨g, cap, cur, rfl, _⟩
  · have hl : l = [] := by have := h.1; rw [hn] at this; simpa using this
    subst hl
    have := run_convert_bytes_nil (P := Try.prog) w 34 5 Try.underlying34 Try.underlying5 0 0 9 Try.underlying9
    rw [this]; rfl
  · exact run_string_own h

set_option maxHeartbeats 1000000 in
set_option maxRecDepth 100000 in
theorem sUnhex_any (s : ByteArray) (w : World) (hs : s.size ≤ 40000) (h2 : s.size % 2 = 0) :
    Calls Try.prog 19 #[.string s] w fun e w' => e = .returned (uhRes (unhexL s.data.toList)) ∧ Below w.heap.size w w' := by
  obtain ⟨i0, hi, hz0, hz1, hz2⟩ := info_parts Try.info5
  have hs1 : ¬ (40000 : Int) < (s.size : Int) := by omega
  have he : ((s.size : Int) % 2 != 0) = false := by simp; omega
  have H2 : Hid (s.size % 2 = 0) := h2
  clear h2
  go_enter Try.func19, Try.ntmps19
  go_wp2
  go_loopw [4, 5] (fun v p wr => ∃ (i k : Nat) (pre : List UInt8), p = .int .i64 i ∧ UAt w s i v wr k pre) (fun _ p _ => s.size - (intOf p).toNat)
  case atStart => exact ⟨0, 0, [], rfl, rfl, by omega, World.ownsRow_made w #[] 0 (Nat.le_refl _) (Nat.zero_le _) rfl, by simp, (Below.refl _ _).alloc (Nat.le_refl _) _⟩
  case round =>
    obtain ⟨i, k, pre, rfl, hU⟩ := hrel
    have HU : Hid (UAt w s i u4 wr k pre) := hU
    have hown := hU.own
    have hsz := hU.bel.size
    have htw := hU.twice
    have HT : Hid (i = 2 * k) := htw
    have hik : k ≤ i := by omega
    by_cases hlt : i < s.size
    · have h2 := H2.out
      have hlt1 : i + 1 < s.size := by omega
      clear hU htw h2
      rcases hva : hv s[i] with _ | x
      · have HN : Hid (unhexL s.data.toList = none) := HU.out.bad hlt1 (.inl hva)
        have HA : Hid (hv s[i] = none) := hva
        clear hva
        rcases hvb : hv s[i + 1] with _ | y
        · have HB : Hid (hv s[i + 1] = none) := hvb
          clear hvb
          go_wp2_with fail
          refine (l01Value_no s[i] _ HA.out).mono ?_
          rintro e w1 ⟨rfl, rfl⟩
          go_wp2_with fail
          refine (l01Value_no s[i + 1] _ HB.out).mono ?_
          rintro e w1 ⟨rfl, rfl⟩
          go_wp2
          go_ret2
          exact ⟨uh_none HN.out, HU.out.bel⟩
        · have HB : Hid (hv s[i + 1] = some y) := hvb
          clear hvb
          go_wp2_with fail
          refine (l01Value_no s[i] _ HA.out).mono ?_
          rintro e w1 ⟨rfl, rfl⟩
          go_wp2_with fail
          refine (l01Value_yes s[i + 1] y _ HB.out).mono ?_
          rintro e w1 ⟨rfl, rfl⟩
          go_wp2
          go_ret2
          exact ⟨uh_none HN.out, HU.out.bel⟩
      · have HA : Hid (hv s[i] = some x) := hva
        have hx := hv_lt hva
        clear hva
        rcases hvb : hv s[i + 1] with _ | y
        · have HN : Hid (unhexL s.data.toList = none) := HU.out.bad hlt1 (.inr hvb)
          have HB : Hid (hv s[i + 1] = none) := hvb
          clear hvb
          go_wp2_with fail
          refine (l01Value_yes s[i] x _ HA.out).mono ?_
          rintro e w1 ⟨rfl, rfl⟩
          go_wp2_with fail
          refine (l01Value_no s[i + 1] _ HB.out).mono ?_
          rintro e w1 ⟨rfl, rfl⟩
          go_wp2
          go_ret2
          exact ⟨uh_none HN.out, HU.out.bel⟩
        · have HB : Hid (hv s[i + 1] = some y) := hvb
          have hy := hv_lt hvb
          clear hvb
          have HC : Hid (bv (UInt8.ofNat (16 * x + y)) = .int .u8 (16 * (x : Int) + (y : Int))) := by
            show bv (UInt8.ofNat (16 * x + y)) = .int .u8 (16 * (x : Int) + (y : Int))
            simp [bv]; omega
          go_wp2_with fail
          refine (l01Value_yes s[i] x _ HA.out).mono ?_
          rintro e w1 ⟨rfl, rfl⟩
          go_wp2_with fail
          refine (l01Value_yes s[i + 1] y _ HB.out).mono ?_
          rintro e w1 ⟨rfl, rfl⟩
          go_wp2_with (at_builtin; refine wpList_append_lies _ rfl (.tmp 39) (.tmp 45) 34 rfl w.heap.size 5 i0 (.int .u8 0) 1 1 Try.underlying34 hi hz0 hz1 hz2 rfl (by decide) _ k (pre.map bv) rfl (hown.alloc _) ⟨wr.heap.size, 0, none⟩ 1 1 [.int .u8 (16 * (x : Int) + (y : Int))] rfl rfl (cell_one_new _ _ _) (by simp [Value.oneCell']) (by decide) (by unfold maxLen; omega) (by omega) (by simp; omega) _ rfl ?_; intro g cap w1 hown1 hgrow1 _ _)
          go_roundw
          case rel => exact ⟨i + 2, k + 1, _, by go_num, HU.out.next hlt1 HA.out HB.out (own_snoc hown1 HC.out) hgrow1⟩
          case measure => simp [intOf]; omega
    · have HD : Hid (unhexL s.data.toList = some pre) := hU.done hlt
      have hstr := run_string_any hown
      clear hU htw
      go_wp2
      go_ret2
      exact ⟨uh_some HD.out, HU.out.bel⟩
theorem extract_two (s : ByteArray) (i : Nat) (h : i + 1 < s.size) : s.extract i (i + 2) = ⟨#[s[i], s[i + 1]]⟩ := by
  apply ByteArray.ext
  apply Array.toList_inj.1
  rw [Lib.extract_data, List.drop_eq_getElem_cons (by have : s.data.size = s.size := rfl; simp; omega), List.drop_eq_getElem_cons (by have : s.data.size = s.size := rfl; simp; omega)]
  rw [show i + 2 - i = 2 by omega]
  rfl

set_option maxHeartbeats 1000000 in
set_option maxRecDepth 100000 in
theorem Unhex_any (s : ByteArray) (w : World) (hs : s.size ≤ 40000) (h2 : s.size % 2 = 0) :
    Calls Try.prog 20 #[.string s] w fun e w' => e = .returned (uhRes (unhexL s.data.toList)) ∧ Below w.heap.size w w' := by
  obtain ⟨i0, hi, hz0, hz1, hz2⟩ := info_parts Try.info5
  have hs1 : ¬ (40000 : Int) < (s.size : Int) := by omega
  have he : ((s.size : Int) % 2 != 0) = false := by simp; omega
  have H2 : Hid (s.size % 2 = 0) := h2
  clear h2
  go_enter Try.func20, Try.ntmps20
  go_wp2_with (at_make; refine wpList_make_own _ rfl _ _ 34 rfl w.heap.size 5 i0 (.int .u8 0) 1 Try.underlying34 hi hz0 hz1 .i64 .i64 ((s.size : Int) / 2) (s.size / 2) rfl rfl (by omega) (by rw [hz2]; omega) (by unfold maxLen; omega) (Nat.le_refl _) ?_; intro w0 hown0 hgrow0)
  go_loopw [4, 5] (fun v p wr => ∃ (i k : Nat) (pre : List UInt8), p = .int .i64 i ∧ UAt w s i v wr k pre) (fun _ p _ => s.size - (intOf p).toNat)
  case atStart => exact ⟨0, 0, [], rfl, rfl, by omega, hown0, by simp, (Below.refl _ _).grown hgrow0 (Nat.le_refl _) (by simp)⟩
  case round =>
    obtain ⟨i, k, pre, rfl, hU⟩ := hrel
    have HU : Hid (UAt w s i u4 wr k pre) := hU
    have hown := hU.own
    have hsz := hU.bel.size
    have htw := hU.twice
    have HT : Hid (i = 2 * k) := htw
    have hik : k ≤ i := by omega
    by_cases hlt : i < s.size
    · have h2 := H2.out
      have hlt1 : i + 1 < s.size := by omega
      have hx := extract_two s i hlt1
      have hb2 : (i : Int) + 2 ≤ (s.size : Int) := by omega
      clear hU htw h2
      go_wp2_with fail
      refine (figures_any s[i] s[i + 1] _).mono ?_
      rintro e w1 ⟨rfl, ⟨x, y, ha, hb, rfl⟩ | ⟨hn, n, rfl⟩⟩
      · have HA : Hid (hv s[i] = some x) := ha
        have HB : Hid (hv s[i + 1] = some y) := hb
        have hx := hv_lt ha
        have hy := hv_lt hb
        clear ha hb
        have HC : Hid (bv (UInt8.ofNat (16 * x + y)) = .int .u8 (16 * (x : Int) + (y : Int))) := by
          show bv (UInt8.ofNat (16 * x + y)) = .int .u8 (16 * (x : Int) + (y : Int))
          simp [bv]; omega
        go_wp2_with (at_builtin; refine wpList_append_lies _ rfl (.tmp 38) (.tmp 41) 34 rfl w.heap.size 5 i0 (.int .u8 0) 1 1 Try.underlying34 hi hz0 hz1 hz2 rfl (by decide) _ k (pre.map bv) rfl (hown.alloc _) ⟨wr.heap.size, 0, none⟩ 1 1 [.int .u8 (16 * (x : Int) + (y : Int))] rfl rfl (cell_one_new _ _ _) (by simp [Value.oneCell']) (by decide) (by unfold maxLen; omega) (by omega) (by simp; omega) _ rfl ?_; intro g cap w1 hown1 hgrow1 _ _)
        go_roundw
        case rel => exact ⟨i + 2, k + 1, _, by go_num, HU.out.next hlt1 HA.out HB.out (own_snoc hown1 HC.out) hgrow1⟩
        case measure => simp [intOf]; omega
      · have HN : Hid (unhexL s.data.toList = none) := HU.out.bad hlt1 hn
        clear hn
        go_wp2
        go_ret2
        exact ⟨uh_none HN.out, HU.out.bel⟩
    · have HD : Hid (unhexL s.data.toList = some pre) := hU.done hlt
      have hstr := run_string_any hown
      clear hU htw
      go_wp2
      go_ret2
      exact ⟨uh_some HD.out, HU.out.bel⟩

set_option maxHeartbeats 400000 in
theorem sUnhex_no (s : ByteArray) (w : World) (h : 40000 < s.size ∨ s.size % 2 ≠ 0) :
    Calls Try.prog 19 #[.string s] w fun e w' => e = .returned (.tuple #[.string ⟨#[]⟩, .bool false]) ∧ Below w.heap.size w w' := by
  by_cases h1 : 40000 < s.size
  · have h3 : (40000 : Int) < (s.size : Int) := by omega
    clear h
    go_enter Try.func19, Try.ntmps19
    go_wp2
    go_ret2
    exact ⟨rfl, Below.refl _ _⟩
  · have h3 : ¬ (40000 : Int) < (s.size : Int) := by omega
    have he : ((s.size : Int) % 2 != 0) = true := by simp; omega
    clear h
    go_enter Try.func19, Try.ntmps19
    go_wp2
    go_ret2
    exact ⟨rfl, Below.refl _ _⟩
set_option maxHeartbeats 400000 in
theorem Unhex_no (s : ByteArray) (w : World) (h : 40000 < s.size ∨ s.size % 2 ≠ 0) :
    Calls Try.prog 20 #[.string s] w fun e w' => e = .returned (.tuple #[.string ⟨#[]⟩, .bool false]) ∧ Below w.heap.size w w' := by
  by_cases h1 : s.size % 2 = 0
  · have h3 : (40000 : Int) < (s.size : Int) := by omega
    have he : ((s.size : Int) % 2 != 0) = false := by simp; omega
    clear h
    go_enter Try.func20, Try.ntmps20
    go_wp2
    go_ret2
    exact ⟨rfl, Below.refl _ _⟩
  · have he : ((s.size : Int) % 2 != 0) = true := by simp; omega
    clear h
    go_enter Try.func20, Try.ntmps20
    go_wp2
    go_ret2
    exact ⟨rfl, Below.refl _ _⟩
def noHex (s : ByteArray) : Prop := (40000 < s.size ∨ s.size % 2 ≠ 0) ∨ unhexL s.data.toList = none
structure isHex (s : ByteArray) (l : List UInt8) : Prop where
  short : s.size ≤ 40000
  even : s.size % 2 = 0
  what : unhexL s.data.toList = some l
theorem hex_cases (s : ByteArray) : noHex s ∨ ∃ l, isHex s l := by
  by_cases h : 40000 < s.size ∨ s.size % 2 ≠ 0
  · exact .inl (.inl h)
  · cases hu : unhexL s.data.toList with
    | none => exact .inl (.inr hu)
    | some l => exact .inr ⟨l, by omega, by omega, hu⟩
theorem sUnhex_out (s : ByteArray) (w : World) (h : noHex s) :
    Calls Try.prog 19 #[.string s] w fun e w' => e = .returned (.tuple #[.string ⟨#[]⟩, .bool false]) ∧ Below w.heap.size w w' := by
  by_cases h1 : 40000 < s.size ∨ s.size % 2 ≠ 0
  · exact sUnhex_no s w h1
  · have hu : unhexL s.data.toList = none := h.resolve_left h1
    have := sUnhex_any s w (by omega) (by omega)
    rw [hu] at this
    exact this
theorem Unhex_out (s : ByteArray) (w : World) (h : noHex s) :
    Calls Try.prog 20 #[.string s] w fun e w' => e = .returned (.tuple #[.string ⟨#[]⟩, .bool false]) ∧ Below w.heap.size w w' := by
  by_cases h1 : 40000 < s.size ∨ s.size % 2 ≠ 0
  · exact Unhex_no s w h1
  · have hu : unhexL s.data.toList = none := h.resolve_left h1
    have := Unhex_any s w (by omega) (by omega)
    rw [hu] at this
    exact this
theorem sUnhex_yes (s : ByteArray) (l : List UInt8) (w : World) (h : isHex s l) :
    Calls Try.prog 19 #[.string s] w fun e w' => e = .returned (.tuple #[.string ⟨l.toArray⟩, .bool true]) ∧ Below w.heap.size w w' := by
  have := sUnhex_any s w h.short h.even
  rw [h.what] at this
  exact this
theorem Unhex_yes (s : ByteArray) (l : List UInt8) (w : World) (h : isHex s l) :
    Calls Try.prog 20 #[.string s] w fun e w' => e = .returned (.tuple #[.string ⟨l.toArray⟩, .bool true]) ∧ Below w.heap.size w w' := by
  have := Unhex_any s w h.short h.even
  rw [h.what] at this
  exact this
end Go.Proofs.Ytcbebilhbghclaa
