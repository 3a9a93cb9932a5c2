/-
  Figures: their values, and the reading of a text of figures, in plain mathematics; spec.l01Value and impl.readFigures at two figures.
-/
import Derived.Test.YtcbebilhbghclaaVar
import Derived.WalkMore
import Derived.Deep.LoopGhost
namespace Go.Proofs.Ytcbebilhbghclaa
open Go.RowKit

/-- the value of a figure of base 16 -/
def hv (c : UInt8) : Option Nat :=
  if 48 ≤ c.toNat ∧ c.toNat ≤ 57 then some (c.toNat - 48) else if 97 ≤ c.toNat ∧ c.toNat ≤ 102 then some (c.toNat - 87) else none

theorem hv_some {c : UInt8} {a : Nat} (h : hv c = some a) : (48 ≤ c.toNat ∧ c.toNat ≤ 57 ∧ a = c.toNat - 48) ∨ (97 ≤ c.toNat ∧ c.toNat ≤ 102 ∧ a = c.toNat - 87) := by
  unfold hv at h
  split at h
  · simp at h; omega
  · split at h
    · simp at h; omega
    · cases h
theorem hv_none {c : UInt8} (h : hv c = none) : c.toNat < 48 ∨ (57 < c.toNat ∧ c.toNat < 97) ∨ 102 < c.toNat := by
  unfold hv at h
  split at h
  · cases h
  · split at h
    · cases h
    · omega
theorem hv_lt {c : UInt8} {a : Nat} (h : hv c = some a) : a < 16 := by
  have := hv_some h; omega

/-- the text whose figures these are -/
def unhexL : List UInt8 → Option (List UInt8)
  | [] => some []
  | [_] => none
  | c :: d :: l => match hv c, hv d with
    | some a, some b => (unhexL l).map fun r => UInt8.ofNat (16 * a + b) :: r
    | _, _ => none

theorem unhex_step (l : List UInt8) (i : Nat) (h : i + 1 < l.length) {a b : Nat} (ha : hv l[i] = some a) (hb : hv l[i + 1] = some b) :
    unhexL (l.drop i) = (unhexL (l.drop (i + 2))).map fun r => UInt8.ofNat (16 * a + b) :: r := by
  rw [List.drop_eq_getElem_cons (by omega), List.drop_eq_getElem_cons h]
  simp only [unhexL, ha, hb]
theorem unhex_bad (l : List UInt8) (i : Nat) (h : i + 1 < l.length) (hn : hv l[i] = none ∨ hv l[i + 1] = none) : unhexL (l.drop i) = none := by
  rw [List.drop_eq_getElem_cons (by omega), List.drop_eq_getElem_cons h]
  simp only [unhexL]
  rcases hn with hn | hn
  · simp [hn]
  · simp only [hn]
    split <;> simp_all

set_option maxHeartbeats 400000 in
theorem l01Value_yes (c : UInt8) (a : Nat) (w : World) (h : hv c = some a) :
    Calls Try.prog 25 #[.int .u8 (c.toNat : Int)] w fun e w' => e = .returned (.int .i64 (a : Int)) ∧ w = w' := by
  have hc : (c.toNat : Int) < 256 := by have := c.toNat_lt; omega
  rcases hv_some h with ⟨h1, h2, rfl⟩ | ⟨h1, h2, rfl⟩
  · have d1 : decide ((48 : Int) ≤ (c.toNat : Int)) = true := by simp; omega
    have d2 : decide ((c.toNat : Int) ≤ 57) = true := by simp; omega
    clear h
    go_enter Try.func25, Try.ntmps25
    go_wp2
    go_ret
    exact ⟨by go_num, rfl⟩
  · have d1 : decide ((48 : Int) ≤ (c.toNat : Int)) = true := by simp; omega
    have d2 : decide ((c.toNat : Int) ≤ 57) = false := by simp; omega
    have d3 : decide ((97 : Int) ≤ (c.toNat : Int)) = true := by simp; omega
    have d4 : decide ((c.toNat : Int) ≤ 102) = true := by simp; omega
    clear h
    go_enter Try.func25, Try.ntmps25
    go_wp2
    go_ret
    exact ⟨by go_num, rfl⟩
set_option maxHeartbeats 400000 in
theorem l01Value_no (c : UInt8) (w : World) (h : hv c = none) :
    Calls Try.prog 25 #[.int .u8 (c.toNat : Int)] w fun e w' => e = .returned (.int .i64 (-1)) ∧ w = w' := by
  have hc : (c.toNat : Int) < 256 := by have := c.toNat_lt; omega
  rcases hv_none h with h1 | ⟨h1, h2⟩ | h1
  · have d1 : decide ((48 : Int) ≤ (c.toNat : Int)) = false := by simp; omega
    have d3 : decide ((97 : Int) ≤ (c.toNat : Int)) = false := by simp; omega
    clear h
    go_enter Try.func25, Try.ntmps25
    go_wp2
    go_ret
    exact ⟨rfl, rfl⟩
  · have d1 : decide ((48 : Int) ≤ (c.toNat : Int)) = true := by simp; omega
    have d2 : decide ((c.toNat : Int) ≤ 57) = false := by simp; omega
    have d3 : decide ((97 : Int) ≤ (c.toNat : Int)) = false := by simp; omega
    clear h
    go_enter Try.func25, Try.ntmps25
    go_wp2
    go_ret
    exact ⟨rfl, rfl⟩
  · have d1 : decide ((48 : Int) ≤ (c.toNat : Int)) = true := by simp; omega
    have d2 : decide ((c.toNat : Int) ≤ 57) = false := by simp; omega
    have d3 : decide ((97 : Int) ≤ (c.toNat : Int)) = true := by simp; omega
    have d4 : decide ((c.toNat : Int) ≤ 102) = false := by simp; omega
    clear h
    go_enter Try.func25, Try.ntmps25
    go_wp2
    go_ret
    exact ⟨rfl, rfl⟩

/-- two figures: where the loop is, and what it has -/
def FRel (c d : UInt8) (k m : Nat) : Prop :=
  (k = 0 ∧ m = 0) ∨ (k = 1 ∧ hv c = some m) ∨ (k = 2 ∧ ∃ a b, hv c = some a ∧ hv d = some b ∧ m = 16 * a + b)

set_option maxHeartbeats 1000000 in
set_option maxRecDepth 100000 in
theorem figures_any (c d : UInt8) (w : World) :
    Calls Try.prog 26 #[.string ⟨#[c, d]⟩, .int .i64 16] w fun e w' => w = w' ∧
      ((∃ a b, hv c = some a ∧ hv d = some b ∧ e = .returned (.tuple #[.int .i64 ((16 * a + b : Nat) : Int), .bool true])) ∨
       ((hv c = none ∨ hv d = none) ∧ ∃ n, e = .returned (.tuple #[.int .i64 n, .bool false]))) := by
  have hc : (c.toNat : Int) < 256 := by have := c.toNat_lt; omega
  have hd : (d.toNat : Int) < 256 := by have := d.toNat_lt; omega
  have hz : (⟨#[c, d]⟩ : ByteArray).size = 2 := rfl
  have e0 : (⟨#[c, d]⟩ : ByteArray)[0]'(by show 0 < 2; omega) = c := rfl
  have e1 : (⟨#[c, d]⟩ : ByteArray)[1]'(by show 1 < 2; omega) = d := rfl
  go_enter Try.func26, Try.ntmps26
  go_wp2
  go_step3
  go_wp2
  go_step3
  go_wp2
  go_loop [6, 7] (fun n p => ∃ k m : Nat, n = .int .i64 m ∧ p = .int .i64 k ∧ FRel c d k m) (fun _ p => 2 - (intOf p).toNat)
  case atStart => exact ⟨0, 0, rfl, rfl, .inl ⟨rfl, rfl⟩⟩
  case round =>
    obtain ⟨k, m, rfl, rfl, hR⟩ := hrel
    rcases hR with ⟨rfl, rfl⟩ | ⟨rfl, hR⟩ | ⟨rfl, a, b, ha, hb, rfl⟩
    · rcases hvc : hv c with _ | x
      · have HV : Hid (hv c = none) := hvc
        have hn := hv_none hvc
        clear hvc
        rcases hn with h1 | ⟨h1, h2⟩ | h1
        · have d48 : decide ((48 : Int) ≤ (c.toNat : Int)) = false := by simp; omega
          have d97 : decide ((97 : Int) ≤ (c.toNat : Int)) = false := by simp; omega
          go_wp2
          try rw [Exit.noGoto_ret]
          go_ret2
          exact ⟨rfl, .inr ⟨.inl HV.out, _, rfl⟩⟩
        · have d48 : decide ((48 : Int) ≤ (c.toNat : Int)) = true := by simp; omega
          have d57 : decide ((c.toNat : Int) ≤ 57) = false := by simp; omega
          have d97 : decide ((97 : Int) ≤ (c.toNat : Int)) = false := by simp; omega
          go_wp2
          try rw [Exit.noGoto_ret]
          go_ret2
          exact ⟨rfl, .inr ⟨.inl HV.out, _, rfl⟩⟩
        · have d48 : decide ((48 : Int) ≤ (c.toNat : Int)) = true := by simp; omega
          have d57 : decide ((c.toNat : Int) ≤ 57) = false := by simp; omega
          have d97 : decide ((97 : Int) ≤ (c.toNat : Int)) = true := by simp; omega
          have d102 : decide ((c.toNat : Int) ≤ 102) = false := by simp; omega
          go_wp2
          try rw [Exit.noGoto_ret]
          go_ret2
          exact ⟨rfl, .inr ⟨.inl HV.out, _, rfl⟩⟩
      · have HV : Hid (hv c = some x) := hvc
        have hn := hv_some hvc
        clear hvc
        rcases hn with ⟨h1, h2, hx⟩ | ⟨h1, h2, hx⟩
        · have d48 : decide ((48 : Int) ≤ (c.toNat : Int)) = true := by simp; omega
          have d57 : decide ((c.toNat : Int) ≤ 57) = true := by simp; omega
          go_wp2
          go_round
          case rel => exact ⟨1, x, by first | (rw [hx]; go_num) | (congr 1; omega), by go_num, .inr (.inl ⟨rfl, HV.out⟩)⟩
          case measure => simp [intOf]
        · have d48 : decide ((48 : Int) ≤ (c.toNat : Int)) = true := by simp; omega
          have d57 : decide ((c.toNat : Int) ≤ 57) = false := by simp; omega
          have d97 : decide ((97 : Int) ≤ (c.toNat : Int)) = true := by simp; omega
          have d102 : decide ((c.toNat : Int) ≤ 102) = true := by simp; omega
          go_wp2
          go_round
          case rel => exact ⟨1, x, by first | (rw [hx]; go_num) | (congr 1; omega), by go_num, .inr (.inl ⟨rfl, HV.out⟩)⟩
          case measure => simp [intOf]
    · have HC : Hid (hv c = some m) := hR
      have hm := hv_lt hR
      clear hR
      rcases hvd : hv d with _ | x
      · have HV : Hid (hv d = none) := hvd
        have hn := hv_none hvd
        clear hvd
        rcases hn with h1 | ⟨h1, h2⟩ | h1
        · have d48 : decide ((48 : Int) ≤ (d.toNat : Int)) = false := by simp; omega
          have d97 : decide ((97 : Int) ≤ (d.toNat : Int)) = false := by simp; omega
          go_wp2
          try rw [Exit.noGoto_ret]
          go_ret2
          exact ⟨rfl, .inr ⟨.inr HV.out, _, rfl⟩⟩
        · have d48 : decide ((48 : Int) ≤ (d.toNat : Int)) = true := by simp; omega
          have d57 : decide ((d.toNat : Int) ≤ 57) = false := by simp; omega
          have d97 : decide ((97 : Int) ≤ (d.toNat : Int)) = false := by simp; omega
          go_wp2
          try rw [Exit.noGoto_ret]
          go_ret2
          exact ⟨rfl, .inr ⟨.inr HV.out, _, rfl⟩⟩
        · have d48 : decide ((48 : Int) ≤ (d.toNat : Int)) = true := by simp; omega
          have d57 : decide ((d.toNat : Int) ≤ 57) = false := by simp; omega
          have d97 : decide ((97 : Int) ≤ (d.toNat : Int)) = true := by simp; omega
          have d102 : decide ((d.toNat : Int) ≤ 102) = false := by simp; omega
          go_wp2
          try rw [Exit.noGoto_ret]
          go_ret2
          exact ⟨rfl, .inr ⟨.inr HV.out, _, rfl⟩⟩
      · have HV : Hid (hv d = some x) := hvd
        have hn := hv_some hvd
        clear hvd
        rcases hn with ⟨h1, h2, hx⟩ | ⟨h1, h2, hx⟩
        · have d48 : decide ((48 : Int) ≤ (d.toNat : Int)) = true := by simp; omega
          have d57 : decide ((d.toNat : Int) ≤ 57) = true := by simp; omega
          go_wp2
          go_round
          case rel => exact ⟨2, 16 * m + x, by first | (rw [hx]; go_num) | (congr 1; omega), by go_num, .inr (.inr ⟨rfl, m, x, HC.out, HV.out, rfl⟩)⟩
          case measure => simp [intOf]
        · have d48 : decide ((48 : Int) ≤ (d.toNat : Int)) = true := by simp; omega
          have d57 : decide ((d.toNat : Int) ≤ 57) = false := by simp; omega
          have d97 : decide ((97 : Int) ≤ (d.toNat : Int)) = true := by simp; omega
          have d102 : decide ((d.toNat : Int) ≤ 102) = true := by simp; omega
          go_wp2
          go_round
          case rel => exact ⟨2, 16 * m + x, by first | (rw [hx]; go_num) | (congr 1; omega), by go_num, .inr (.inr ⟨rfl, m, x, HC.out, HV.out, rfl⟩)⟩
          case measure => simp [intOf]
    · have HA : Hid (hv c = some a) := ha
      have HB : Hid (hv d = some b) := hb
      clear ha hb
      go_wp2
      try rw [Exit.noGoto_ret]
      go_ret2
      exact ⟨rfl, .inl ⟨a, b, HA.out, HB.out, rfl⟩⟩

end Go.Proofs.Ytcbebilhbghclaa
