/-
  Hex of both packages.
-/
import Derived.Test.YtcbebilhbghclaaUnhex
import Derived.Deep.RegionHeldLaw
namespace Go.Proofs.Ytcbebilhbghclaa
open Go.RowKit

/-- the figure of a half -/
def fig (x : Nat) : UInt8 := if x < 10 then UInt8.ofNat (48 + x) else UInt8.ofNat (87 + x)
def figI (x : Int) : Int := ((fig x.toNat).toNat : Int)
/-- two figures for each byte -/
def hexL (l : List UInt8) : List UInt8 := l.flatMap fun c => [fig (c.toNat / 16), fig (c.toNat % 16)]

theorem figI_bv (x : Nat) : bv (fig x) = .int .u8 (figI x) := rfl
theorem hex_take (s : ByteArray) (i : Nat) (h : i < s.size) : hexL (s.data.toList.take (i + 1)) = hexL (s.data.toList.take i) ++ [fig (s[i].toNat / 16), fig (s[i].toNat % 16)] := by
  have hl : i < s.data.toList.length := by have : s.data.size = s.size := rfl; simp; omega
  rw [List.take_succ_eq_append_getElem hl]
  simp only [hexL, List.flatMap_append]
  rfl
theorem hex_len (l : List UInt8) : (hexL l).length = 2 * l.length := by
  induction l with
  | nil => rfl
  | cons c l ih => simp only [hexL, List.flatMap_cons, List.length_append, List.length_cons, List.length_nil] at ih ⊢; omega

structure HAt (w : World) (s : ByteArray) (i : Nat) (v : Value) (wr : World) : Prop where
  le : i ≤ s.size
  own : wr.ownsRow w.heap.size 5 1 v (2 * i) ((hexL (s.data.toList.take i)).map bv)
  bel : Below w.heap.size w wr

theorem HAt.next {w wr w0 w1 : World} {s : ByteArray} {i : Nat} {v v1 : Value} {x y : Value} {o : Obj} (h : HAt w s i v wr) (hlt : i < s.size)
    (ho : w1.ownsRow w.heap.size 5 1 v1 (2 * i + 2) ((hexL (s.data.toList.take i)).map bv ++ [x, y])) (hx : bv (fig (s[i].toNat / 16)) = x) (hy : bv (fig (s[i].toNat % 16)) = y)
    (hw0 : Below w.heap.size wr w0) (hg : (w0.alloc o).grownBy w1 v.ownBlock) : HAt w s (i + 1) v1 w1 := by
  refine ⟨by omega, ?_, ?_⟩
  · rw [hex_take s i hlt]
    subst hx hy
    simpa [Nat.mul_add] using ho
  · have h1 := h.bel.trans hw0
    exact (h1.alloc h1.size o).grown hg (by have := h1.size; simp; omega) fun j hj => (h.own.lt j hj).1

set_option maxHeartbeats 400000 in
theorem l01Figure_any (x : Int) (w : World) (h0 : 0 ≤ x) (h1 : x < 16) :
    Calls Try.prog 24 #[.int .i64 x] w fun e w' => e = .returned (.int .u8 (figI x)) ∧ w = w' := by
  by_cases h : x < 10
  · have HF : Hid (figI x = 48 + x) := by
      show figI x = 48 + x
      unfold figI fig
      rw [if_pos (by omega)]
      simp; omega
    go_enter Try.func24, Try.ntmps24
    go_wp2
    go_ret
    exact ⟨by rw [HF.out]; rfl, rfl⟩
  · have HF : Hid (figI x = 97 + x - 10) := by
      show figI x = 97 + x - 10
      unfold figI fig
      rw [if_neg (by omega)]
      simp; omega
    go_enter Try.func24, Try.ntmps24
    go_wp2
    go_ret
    exact ⟨by rw [HF.out]; rfl, rfl⟩

set_option maxHeartbeats 1000000 in
set_option maxRecDepth 100000 in
theorem sHex_any (s : ByteArray) (w : World) (hs : s.size ≤ 20000) :
    Calls Try.prog 17 #[.string s] w fun e w' => e = .returned (.tuple #[.string ⟨(hexL s.data.toList).toArray⟩, .bool true]) ∧ Below w.heap.size w w' := by
  obtain ⟨i0, hi, hz0, hz1, hz2⟩ := info_parts Try.info5
  go_enter Try.func17, Try.ntmps17
  go_wp2
  go_loopw [4, 5] (fun v p wr => ∃ i : Nat, p = .int .i64 i ∧ HAt w s i v wr) (fun _ p _ => s.size - (intOf p).toNat)
  case atStart => exact ⟨0, rfl, by omega, by simpa [hexL] using World.ownsRow_made (e := 5) (size := 1) w #[] 0 (Nat.le_refl _) (Nat.zero_le _) rfl, (Below.refl _ _).alloc (Nat.le_refl _) _⟩
  case round =>
    obtain ⟨i, rfl, hU⟩ := hrel
    have HU : Hid (HAt w s i u4 wr) := hU
    have hown := hU.own
    have hsz := hU.bel.size
    by_cases hlt : i < s.size
    · clear hU
      have hc : (s[i].toNat : Int) < 256 := by have := s[i].toNat_lt; omega
      have hi1 : (i : Int) < (s.size : Int) := by omega
      have hi2 : (0 : Int) ≤ (i : Int) := by omega
      have hw1 : IntKind.i64.wrap (s[i].toNat : Int) = (s[i].toNat : Int) := wrap_small _ (by omega) (by omega)
      have hw2 : IntKind.i64.wrap ((s[i].toNat : Int) / 16) = (s[i].toNat : Int) / 16 := wrap_small _ (by omega) (by omega)
      have hw3 : IntKind.i64.wrap ((s[i].toNat : Int) % 16) = (s[i].toNat : Int) % 16 := wrap_small _ (by omega) (by omega)
      have hw4 : (s[i].toNat : Int).tmod 16 = (s[i].toNat : Int) % 16 := Int.tmod_eq_emod_of_nonneg (by omega)
      go_wp2_with fail
      go_region_held_law (fun _ => True) (trivial) (first | (refine step_append_lies _ rfl (.tmp 16) (.tmp 29) 34 rfl w.heap.size 5 i0 (.int .u8 0) 1 1 Try.underlying34 hi hz0 hz1 hz2 rfl (by decide) _ (2 * i) ((hexL (s.data.toList.take i)).map bv) rfl (by exact (hown.alloc _).drew) ⟨wr.heap.size, 0, none⟩ 2 2 [.int .u8 (figI ((s[i].toNat : Int) / 16)), .int .u8 (figI ((s[i].toNat : Int) % 16))] rfl rfl (World.news_of_block (by exact heap_alloc_new wr _)) (by simp [Value.oneCell']) (by decide) (by unfold maxLen; omega) (by omega) (by simp; omega) _ rfl ?_; intro g cap w1 hown1 hgrow1 _ _) | (go_at_call 24; refine (l01Figure_any _ _ ?_ ?_).mono ?_; omega; omega; rintro e w1 ⟨rfl, rfl⟩))
      all_goals go_wp2
      all_goals go_roundw
      all_goals (try (case measure => simp [intOf]; omega))
      all_goals (case rel => exact ⟨i + 1, by go_num, HU.out.next (w0 := wr.drew) hlt hown1 (by rw [figI_bv]; simp) (by rw [figI_bv]; simp) ((Below.refl _ _).drew) (by exact hgrow1)⟩)
    · have HD : Hid (hexL (s.data.toList.take i) = hexL s.data.toList) := by
        show hexL (s.data.toList.take i) = hexL s.data.toList
        rw [List.take_of_length_le (by have : s.data.size = s.size := rfl; simp; omega)]
      have hstr := run_string_any hown
      clear hU
      go_wp2
      go_ret2
      exact ⟨by rw [← HD.out]; rfl, HU.out.bel⟩
end Go.Proofs.Ytcbebilhbghclaa
