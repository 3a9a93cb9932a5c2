/-
  Short texts and figures over this program's numbers: impl.ShortText, impl.ReadShort, impl.Unhex, impl.Hex.
-/
import Derived.Test.YtcbebilhbghclaaDoorWdA
import Derived.WalkMore
import Derived.Deep.LoopGhost
import Derived.Deep.RegionHeldLaw
namespace Go.Proofs.YtcbebilhbghclaaDoor.wd
open Go.RowKit


theorem varB_len : ∀ f n, (varB f n).length ≤ f + 1
  | 0, n => by simp [varB]
  | f + 1, n => by
    have := varB_len f (n / 128)
    unfold varB
    split <;> simp <;> omega

set_option maxHeartbeats 400000 in
theorem Short_yes (s : ByteArray) (w : World) (hs : s.size ≤ 20000) :
    Calls Tryd.prog 14 #[.string s] w fun e w' => e = .returned (.tuple #[.string (⟨(varB 9 s.size).toArray⟩ ++ s), .bool true]) ∧ Below w.heap.size w w' := by
  have hl := varB_len 9 s.size
  go_enter Tryd.func14, Tryd.ntmps14
  go_wp2_with (go_at_call 9; refine (VarText_yes _ _ (by omega)).mono ?_; rintro e w1 ⟨rfl, hb1⟩)
  go_ret2
  exact ⟨rfl, hb1⟩

set_option maxHeartbeats 400000 in
theorem Short_no (s : ByteArray) (w : World) (hs : (20000 : Int) < (s.size : Int)) :
    Calls Tryd.prog 14 #[.string s] w fun e w' => e = .returned (.tuple #[.string ⟨#[]⟩, .bool false]) ∧ Below w.heap.size w w' := by
  go_enter Tryd.func14, Tryd.ntmps14
  go_wp2
  go_ret2
  exact ⟨rfl, Below.refl _ _⟩

/-- no short text stands there -/
def noShort (s : ByteArray) (a : Int) : Prop := noVar s a ∨ ∃ n p, isVar s a n p ∧ (20000 < n ∨ s.size < p + n)
structure isShort (s : ByteArray) (a : Int) (n p : Nat) : Prop where
  var : isVar s a n p
  short : n ≤ 20000
  fits : p + n ≤ s.size
theorem short_cases (s : ByteArray) (a : Int) : noShort s a ∨ ∃ n p, isShort s a n p := by
  rcases var_cases s a with h | ⟨n, p, h⟩
  · exact .inl (.inl h)
  · by_cases h2 : 20000 < n ∨ s.size < p + n
    · exact .inl (.inr ⟨n, p, h, h2⟩)
    · exact .inr ⟨n, p, h, by omega, by omega⟩

set_option maxHeartbeats 400000 in
theorem RShort_no (s : ByteArray) (a : Int) (w : World) (hs : s.size ≤ 1048576) (h : noShort s a) :
    Calls Tryd.prog 15 #[.string s, .int .i64 a] w fun e w' => e = .returned (.tuple #[.string ⟨#[]⟩, .int .i64 0, .bool false]) ∧ Below w.heap.size w w' := by
  rcases h with h | ⟨n, p, h, hn⟩
  · have HV : Hid (noVar s a) := h
    clear h
    go_enter Tryd.func15, Tryd.ntmps15
    go_wp2_with (go_at_call 10; refine (ReadVar_no _ _ _ hs HV.out).mono ?_; rintro e w1 ⟨rfl, hb1⟩)
    go_ret3
    exact ⟨rfl, hb1⟩
  · have HV : Hid (isVar s a n p) := h
    have hp := h.place
    have hn1 := h.num
    by_cases hb : (20000 : Int) < (n : Int)
    · clear hn h
      go_enter Tryd.func15, Tryd.ntmps15
      go_wp2_with (go_at_call 10; refine (ReadVar_yes _ _ n p _ hs HV.out).mono ?_; rintro e w1 ⟨rfl, hb1⟩)
      go_ret3
      exact ⟨rfl, hb1⟩
    · have hd : (s.size : Int) - (p : Int) < (n : Int) := by omega
      clear hn h
      go_enter Tryd.func15, Tryd.ntmps15
      go_wp2_with (go_at_call 10; refine (ReadVar_yes _ _ n p _ hs HV.out).mono ?_; rintro e w1 ⟨rfl, hb1⟩)
      go_ret3
      exact ⟨rfl, hb1⟩

set_option maxHeartbeats 400000 in
theorem RShort_yes (s : ByteArray) (a : Int) (n p : Nat) (w : World) (hs : s.size ≤ 1048576) (h : isShort s a n p) :
    Calls Tryd.prog 15 #[.string s, .int .i64 a] w fun e w' => e = .returned (.tuple #[.string (s.extract p (p + n)), .int .i64 ((p : Int) + (n : Int)), .bool true]) ∧ Below w.heap.size w w' := by
  have HV : Hid (isVar s a n p) := h.var
  have hn := h.short
  have hf := h.fits
  have hd : (n : Int) ≤ (s.size : Int) - (p : Int) := by omega
  have hd2 : (p : Int) + (n : Int) ≤ (s.size : Int) := by omega
  have HZ : Hid ((s.extract p (p + n)).size ≤ 281474976710656) := by
    show (s.extract p (p + n)).size ≤ 281474976710656
    rw [ByteArray.size_extract]; omega
  clear h
  go_enter Tryd.func15, Tryd.ntmps15
  go_wp2_with (first | (go_at_call 10; refine (ReadVar_yes _ _ n p _ hs HV.out).mono ?_; rintro e w1 ⟨rfl, hb1⟩) | (go_at_call 33; refine (newText_any _ _ HZ.out).mono ?_; rintro e w2 ⟨rfl, hb2⟩))
  go_ret3
  exact ⟨rfl, hb1.trans (hb2.mono hb1.size)⟩

/-- the value of a figure of base 16 -/
def hv (c : UInt8) : Option Nat :=
  if 48 ≤ c.toNat ∧ c.toNat ≤ 57 then some (c.toNat - 48) else if 97 ≤ c.toNat ∧ c.toNat ≤ 102 then some (c.toNat - 87) else none

theorem hv_some {c : UInt8} {a : Nat} (h : hv c = some a) : (48 ≤ c.toNat ∧ c.toNat ≤ 57 ∧ a = c.toNat - 48) ∨ (97 ≤ c.toNat ∧ c.toNat ≤ 102 ∧ a = c.toNat - 87) := by
  unfold hv at h
  split at h
  · simp at h; omega
  · split at h
    · simp at h; omega
    · cases h
theorem hv_none {c : UInt8} (h : hv c = none) : c.toNat < 48 ∨ (57 < c.toNat ∧ c.toNat < 97) ∨ 102 < c.toNat := by
  unfold hv at h
  split at h
  · cases h
  · split at h
    · cases h
    · omega
theorem hv_lt {c : UInt8} {a : Nat} (h : hv c = some a) : a < 16 := by
  have := hv_some h; omega

/-- the text whose figures these are -/
def unhexL : List UInt8 → Option (List UInt8)
  | [] => some []
  | [_] => none
  | c :: d :: l => match hv c, hv d with
    | some a, some b => (unhexL l).map fun r => UInt8.ofNat (16 * a + b) :: r
    | _, _ => none

theorem unhex_step (l : List UInt8) (i : Nat) (h : i + 1 < l.length) {a b : Nat} (ha : hv l[i] = some a) (hb : hv l[i + 1] = some b) :
    unhexL (l.drop i) = (unhexL (l.drop (i + 2))).map fun r => UInt8.ofNat (16 * a + b) :: r := by
  rw [List.drop_eq_getElem_cons (by omega), List.drop_eq_getElem_cons h]
  simp only [unhexL, ha, hb]
theorem unhex_bad (l : List UInt8) (i : Nat) (h : i + 1 < l.length) (hn : hv l[i] = none ∨ hv l[i + 1] = none) : unhexL (l.drop i) = none := by
  rw [List.drop_eq_getElem_cons (by omega), List.drop_eq_getElem_cons h]
  simp only [unhexL]
  rcases hn with hn | hn
  · simp [hn]
  · simp only [hn]
    split <;> simp_all

/-- two figures: where the loop is, and what it has -/
def FRel (c d : UInt8) (k m : Nat) : Prop :=
  (k = 0 ∧ m = 0) ∨ (k = 1 ∧ hv c = some m) ∨ (k = 2 ∧ ∃ a b, hv c = some a ∧ hv d = some b ∧ m = 16 * a + b)

set_option maxHeartbeats 1000000 in
set_option maxRecDepth 100000 in
theorem figures_any (c d : UInt8) (w : World) :
    Calls Tryd.prog 27 #[.string ⟨#[c, d]⟩, .int .i64 16] w fun e w' => w = w' ∧
      ((∃ a b, hv c = some a ∧ hv d = some b ∧ e = .returned (.tuple #[.int .i64 ((16 * a + b : Nat) : Int), .bool true])) ∨
       ((hv c = none ∨ hv d = none) ∧ ∃ n, e = .returned (.tuple #[.int .i64 n, .bool false]))) := by
  have hc : (c.toNat : Int) < 256 := by have := c.toNat_lt; omega
  have hd : (d.toNat : Int) < 256 := by have := d.toNat_lt; omega
  have hz : (⟨#[c, d]⟩ : ByteArray).size = 2 := rfl
  have e0 : (⟨#[c, d]⟩ : ByteArray)[0]'(by show 0 < 2; omega) = c := rfl
  have e1 : (⟨#[c, d]⟩ : ByteArray)[1]'(by show 1 < 2; omega) = d := rfl
  go_enter Tryd.func27, Tryd.ntmps27
  go_wp2
  go_step3
  go_wp2
  go_step3
  go_wp2
  go_loop [6, 7] (fun n p => ∃ k m : Nat, n = .int .i64 m ∧ p = .int .i64 k ∧ FRel c d k m) (fun _ p => 2 - (intOf p).toNat)
  case atStart => exact ⟨0, 0, rfl, rfl, .inl ⟨rfl, rfl⟩⟩
  case round =>
    obtain ⟨k, m, rfl, rfl, hR⟩ := hrel
    rcases hR with ⟨rfl, rfl⟩ | ⟨rfl, hR⟩ | ⟨rfl, a, b, ha, hb, rfl⟩
    · rcases hvc : hv c with _ | x
      · have HV : Hid (hv c = none) := hvc
        have hn := hv_none hvc
        clear hvc
        rcases hn with h1 | ⟨h1, h2⟩ | h1
        · have d48 : decide ((48 : Int) ≤ (c.toNat : Int)) = false := by simp; omega
          have d97 : decide ((97 : Int) ≤ (c.toNat : Int)) = false := by simp; omega
          go_wp2
          try rw [Exit.noGoto_ret]
          go_ret2
          exact ⟨rfl, .inr ⟨.inl HV.out, _, rfl⟩⟩
        · have d48 : decide ((48 : Int) ≤ (c.toNat : Int)) = true := by simp; omega
          have d57 : decide ((c.toNat : Int) ≤ 57) = false := by simp; omega
          have d97 : decide ((97 : Int) ≤ (c.toNat : Int)) = false := by simp; omega
          go_wp2
          try rw [Exit.noGoto_ret]
          go_ret2
          exact ⟨rfl, .inr ⟨.inl HV.out, _, rfl⟩⟩
        · have d48 : decide ((48 : Int) ≤ (c.toNat : Int)) = true := by simp; omega
          have d57 : decide ((c.toNat : Int) ≤ 57) = false := by simp; omega
          have d97 : decide ((97 : Int) ≤ (c.toNat : Int)) = true := by simp; omega
          have d102 : decide ((c.toNat : Int) ≤ 102) = false := by simp; omega
          go_wp2
          try rw [Exit.noGoto_ret]
          go_ret2
          exact ⟨rfl, .inr ⟨.inl HV.out, _, rfl⟩⟩
      · have HV : Hid (hv c = some x) := hvc
        have hn := hv_some hvc
        clear hvc
        rcases hn with ⟨h1, h2, hx⟩ | ⟨h1, h2, hx⟩
        · have d48 : decide ((48 : Int) ≤ (c.toNat : Int)) = true := by simp; omega
          have d57 : decide ((c.toNat : Int) ≤ 57) = true := by simp; omega
          go_wp2
          go_round
          case rel => exact ⟨1, x, by first | (rw [hx]; go_num) | (congr 1; omega), by go_num, .inr (.inl ⟨rfl, HV.out⟩)⟩
          case measure => simp [intOf]
        · have d48 : decide ((48 : Int) ≤ (c.toNat : Int)) = true := by simp; omega
          have d57 : decide ((c.toNat : Int) ≤ 57) = false := by simp; omega
          have d97 : decide ((97 : Int) ≤ (c.toNat : Int)) = true := by simp; omega
          have d102 : decide ((c.toNat : Int) ≤ 102) = true := by simp; omega
          go_wp2
          go_round
          case rel => exact ⟨1, x, by first | (rw [hx]; go_num) | (congr 1; omega), by go_num, .inr (.inl ⟨rfl, HV.out⟩)⟩
          case measure => simp [intOf]
    · have HC : Hid (hv c = some m) := hR
      have hm := hv_lt hR
      clear hR
      rcases hvd : hv d with _ | x
      · have HV : Hid (hv d = none) := hvd
        have hn := hv_none hvd
        clear hvd
        rcases hn with h1 | ⟨h1, h2⟩ | h1
        · have d48 : decide ((48 : Int) ≤ (d.toNat : Int)) = false := by simp; omega
          have d97 : decide ((97 : Int) ≤ (d.toNat : Int)) = false := by simp; omega
          go_wp2
          try rw [Exit.noGoto_ret]
          go_ret2
          exact ⟨rfl, .inr ⟨.inr HV.out, _, rfl⟩⟩
        · have d48 : decide ((48 : Int) ≤ (d.toNat : Int)) = true := by simp; omega
          have d57 : decide ((d.toNat : Int) ≤ 57) = false := by simp; omega
          have d97 : decide ((97 : Int) ≤ (d.toNat : Int)) = false := by simp; omega
          go_wp2
          try rw [Exit.noGoto_ret]
          go_ret2
          exact ⟨rfl, .inr ⟨.inr HV.out, _, rfl⟩⟩
        · have d48 : decide ((48 : Int) ≤ (d.toNat : Int)) = true := by simp; omega
          have d57 : decide ((d.toNat : Int) ≤ 57) = false := by simp; omega
          have d97 : decide ((97 : Int) ≤ (d.toNat : Int)) = true := by simp; omega
          have d102 : decide ((d.toNat : Int) ≤ 102) = false := by simp; omega
          go_wp2
          try rw [Exit.noGoto_ret]
          go_ret2
          exact ⟨rfl, .inr ⟨.inr HV.out, _, rfl⟩⟩
      · have HV : Hid (hv d = some x) := hvd
        have hn := hv_some hvd
        clear hvd
        rcases hn with ⟨h1, h2, hx⟩ | ⟨h1, h2, hx⟩
        · have d48 : decide ((48 : Int) ≤ (d.toNat : Int)) = true := by simp; omega
          have d57 : decide ((d.toNat : Int) ≤ 57) = true := by simp; omega
          go_wp2
          go_round
          case rel => exact ⟨2, 16 * m + x, by first | (rw [hx]; go_num) | (congr 1; omega), by go_num, .inr (.inr ⟨rfl, m, x, HC.out, HV.out, rfl⟩)⟩
          case measure => simp [intOf]
        · have d48 : decide ((48 : Int) ≤ (d.toNat : Int)) = true := by simp; omega
          have d57 : decide ((d.toNat : Int) ≤ 57) = false := by simp; omega
          have d97 : decide ((97 : Int) ≤ (d.toNat : Int)) = true := by simp; omega
          have d102 : decide ((d.toNat : Int) ≤ 102) = true := by simp; omega
          go_wp2
          go_round
          case rel => exact ⟨2, 16 * m + x, by first | (rw [hx]; go_num) | (congr 1; omega), by go_num, .inr (.inr ⟨rfl, m, x, HC.out, HV.out, rfl⟩)⟩
          case measure => simp [intOf]
    · have HA : Hid (hv c = some a) := ha
      have HB : Hid (hv d = some b) := hb
      clear ha hb
      go_wp2
      try rw [Exit.noGoto_ret]
      go_ret2
      exact ⟨rfl, .inl ⟨a, b, HA.out, HB.out, rfl⟩⟩


/-- at the head of each round, at the place i: pre is told -/
structure UAt (w : World) (s : ByteArray) (i : Nat) (v : Value) (wr : World) (k : Nat) (pre : List UInt8) : Prop where
  twice : i = 2 * k
  le : i ≤ s.size
  own : wr.ownsRow w.heap.size 5 1 v k (pre.map bv)
  rel : (unhexL (s.data.toList.drop i)).map (fun r => pre ++ r) = unhexL s.data.toList
  bel : Below w.heap.size w wr

theorem getL (s : ByteArray) (i : Nat) (h : i < s.size) : s.data.toList[i]'(by have : s.data.size = s.size := rfl; simp; omega) = s[i] := rfl

theorem UAt.next {w wr w1 : World} {s : ByteArray} {i k : Nat} {v v1 : Value} {pre : List UInt8} {a b : Nat} {o : Obj} (h : UAt w s i v wr k pre) (hlt : i + 1 < s.size) (ha : hv s[i] = some a) (hb : hv s[i + 1] = some b)
    (ho : w1.ownsRow w.heap.size 5 1 v1 (k + 1) ((pre ++ [UInt8.ofNat (16 * a + b)]).map bv)) (hg : (wr.alloc o).grownBy w1 v.ownBlock) : UAt w s (i + 2) v1 w1 (k + 1) (pre ++ [UInt8.ofNat (16 * a + b)]) := by
  refine ⟨by have := h.twice; omega, by omega, ho, ?_, below_app h.bel h.own hg⟩
  rw [← h.rel, unhex_step s.data.toList i (by have : s.data.size = s.size := rfl; simp; omega) (by rw [getL s i (by omega)]; exact ha) (by rw [getL s (i + 1) hlt]; exact hb)]
  cases unhexL (s.data.toList.drop (i + 2)) <;> simp
theorem UAt.bad {w wr : World} {s : ByteArray} {i k : Nat} {v : Value} {pre : List UInt8} (h : UAt w s i v wr k pre) (hlt : i + 1 < s.size) (hn : hv s[i] = none ∨ hv s[i + 1] = none) : unhexL s.data.toList = none := by
  rw [← h.rel, unhex_bad s.data.toList i (by have : s.data.size = s.size := rfl; simp; omega) (by rw [getL s i (by omega), getL s (i + 1) hlt]; exact hn)]
  rfl
theorem UAt.done {w wr : World} {s : ByteArray} {i k : Nat} {v : Value} {pre : List UInt8} (h : UAt w s i v wr k pre) (hlt : ¬ i < s.size) : unhexL s.data.toList = some pre := by
  rw [← h.rel, List.drop_of_length_le (by have : s.data.size = s.size := rfl; simp; omega)]
  simp [unhexL]
theorem UAt.len {w wr : World} {s : ByteArray} {i k : Nat} {v : Value} {pre : List UInt8} (h : UAt w s i v wr k pre) : pre.length = k := by
  have := h.own.1; simp at this; exact this

def uhRes : Option (List UInt8) → Value
  | none => .tuple #[.string ⟨#[]⟩, .bool false]
  | some l => .tuple #[.string ⟨l.toArray⟩, .bool true]
theorem uh_none {s : ByteArray} (h : unhexL s.data.toList = none) : Ending.returned (.tuple #[.string ⟨#[]⟩, .bool false]) = .returned (uhRes (unhexL s.data.toList)) := by rw [h]; rfl
theorem uh_some {s : ByteArray} {l : List UInt8} (h : unhexL s.data.toList = some l) : Ending.returned (.tuple #[.string ⟨l.toArray⟩, .bool true]) = .returned (uhRes (unhexL s.data.toList)) := by rw [h]; rfl

/-- a slice of bytes of the call's own, of whatever length, made to a string -/
theorem run_string_any {w : World} {base n : Nat} {v : Value} {l : List UInt8} (h : w.ownsRow base 5 1 v n (l.map bv)) :
    (convert 22 9 v).run Tryd.prog w = .ok (.string ⟨l.toArray⟩) w := by
  rcases h.2 with ⟨rfl, hn⟩ | ⟨g, cap, cur, rfl, _⟩
  · have hl : l = [] := by have := h.1; rw [hn] at this; simpa using this
    subst hl
    have := run_convert_bytes_nil (P := Tryd.prog) w 22 5 Tryd.underlying22 Tryd.underlying5 0 0 9 Tryd.underlying9
    rw [this]; rfl
  · exact run_string_own h

theorem extract_two (s : ByteArray) (i : Nat) (h : i + 1 < s.size) : s.extract i (i + 2) = ⟨#[s[i], s[i + 1]]⟩ := by
  apply ByteArray.ext
  apply Array.toList_inj.1
  rw [Lib.extract_data, List.drop_eq_getElem_cons (by have : s.data.size = s.size := rfl; simp; omega), List.drop_eq_getElem_cons (by have : s.data.size = s.size := rfl; simp; omega)]
  rw [show i + 2 - i = 2 by omega]
  rfl

set_option maxHeartbeats 1000000 in
set_option maxRecDepth 100000 in
theorem Unhex_any (s : ByteArray) (w : World) (hs : s.size ≤ 40000) (h2 : s.size % 2 = 0) :
    Calls Tryd.prog 17 #[.string s] w fun e w' => e = .returned (uhRes (unhexL s.data.toList)) ∧ Below w.heap.size w w' := by
  obtain ⟨i0, hi, hz0, hz1, hz2⟩ := info_parts Tryd.info5
  have hs1 : ¬ (40000 : Int) < (s.size : Int) := by omega
  have he : ((s.size : Int) % 2 != 0) = false := by simp; omega
  have H2 : Hid (s.size % 2 = 0) := h2
  clear h2
  go_enter Tryd.func17, Tryd.ntmps17
  go_wp2_with (at_make; refine wpList_make_own _ rfl _ _ 22 rfl w.heap.size 5 i0 (.int .u8 0) 1 Tryd.underlying22 hi hz0 hz1 .i64 .i64 ((s.size : Int) / 2) (s.size / 2) rfl rfl (by omega) (by rw [hz2]; omega) (by unfold maxLen; omega) (Nat.le_refl _) ?_; intro w0 hown0 hgrow0)
  go_loopw [4, 5] (fun v p wr => ∃ (i k : Nat) (pre : List UInt8), p = .int .i64 i ∧ UAt w s i v wr k pre) (fun _ p _ => s.size - (intOf p).toNat)
  case atStart => exact ⟨0, 0, [], rfl, rfl, by omega, hown0, by simp, (Below.refl _ _).grown hgrow0 (Nat.le_refl _) (by simp)⟩
  case round =>
    obtain ⟨i, k, pre, rfl, hU⟩ := hrel
    have HU : Hid (UAt w s i u4 wr k pre) := hU
    have hown := hU.own
    have hsz := hU.bel.size
    have htw := hU.twice
    have HT : Hid (i = 2 * k) := htw
    have hik : k ≤ i := by omega
    by_cases hlt : i < s.size
    · have h2 := H2.out
      have hlt1 : i + 1 < s.size := by omega
      have hx := extract_two s i hlt1
      have hb2 : (i : Int) + 2 ≤ (s.size : Int) := by omega
      clear hU htw h2
      go_wp2_with fail
      refine (figures_any s[i] s[i + 1] _).mono ?_
      rintro e w1 ⟨rfl, ⟨x, y, ha, hb, rfl⟩ | ⟨hn, n, rfl⟩⟩
      · have HA : Hid (hv s[i] = some x) := ha
        have HB : Hid (hv s[i + 1] = some y) := hb
        have hx := hv_lt ha
        have hy := hv_lt hb
        clear ha hb
        have HC : Hid (bv (UInt8.ofNat (16 * x + y)) = .int .u8 (16 * (x : Int) + (y : Int))) := by
          show bv (UInt8.ofNat (16 * x + y)) = .int .u8 (16 * (x : Int) + (y : Int))
          simp [bv]; omega
        go_wp2_with (at_builtin; refine wpList_append_lies _ rfl (.tmp 38) (.tmp 41) 22 rfl w.heap.size 5 i0 (.int .u8 0) 1 1 Tryd.underlying22 hi hz0 hz1 hz2 rfl (by decide) _ k (pre.map bv) rfl (hown.alloc _) ⟨wr.heap.size, 0, none⟩ 1 1 [.int .u8 (16 * (x : Int) + (y : Int))] rfl rfl (cell_one_new _ _ _) (by simp [Value.oneCell']) (by decide) (by unfold maxLen; omega) (by omega) (by simp; omega) _ rfl ?_; intro g cap w1 hown1 hgrow1 _ _)
        go_roundw
        case rel => exact ⟨i + 2, k + 1, _, by go_num, HU.out.next hlt1 HA.out HB.out (own_snoc hown1 HC.out) hgrow1⟩
        case measure => simp [intOf]; omega
      · have HN : Hid (unhexL s.data.toList = none) := HU.out.bad hlt1 hn
        clear hn
        go_wp2
        go_ret2
        exact ⟨uh_none HN.out, HU.out.bel⟩
    · have HD : Hid (unhexL s.data.toList = some pre) := hU.done hlt
      have hstr := run_string_any hown
      clear hU htw
      go_wp2
      go_ret2
      exact ⟨uh_some HD.out, HU.out.bel⟩

set_option maxHeartbeats 400000 in
theorem Unhex_no (s : ByteArray) (w : World) (h : 40000 < s.size ∨ s.size % 2 ≠ 0) :
    Calls Tryd.prog 17 #[.string s] w fun e w' => e = .returned (.tuple #[.string ⟨#[]⟩, .bool false]) ∧ Below w.heap.size w w' := by
  by_cases h1 : s.size % 2 = 0
  · have h3 : (40000 : Int) < (s.size : Int) := by omega
    have he : ((s.size : Int) % 2 != 0) = false := by simp; omega
    clear h
    go_enter Tryd.func17, Tryd.ntmps17
    go_wp2
    go_ret2
    exact ⟨rfl, Below.refl _ _⟩
  · have he : ((s.size : Int) % 2 != 0) = true := by simp; omega
    clear h
    go_enter Tryd.func17, Tryd.ntmps17
    go_wp2
    go_ret2
    exact ⟨rfl, Below.refl _ _⟩
def noHex (s : ByteArray) : Prop := (40000 < s.size ∨ s.size % 2 ≠ 0) ∨ unhexL s.data.toList = none
structure isHex (s : ByteArray) (l : List UInt8) : Prop where
  short : s.size ≤ 40000
  even : s.size % 2 = 0
  what : unhexL s.data.toList = some l
theorem hex_cases (s : ByteArray) : noHex s ∨ ∃ l, isHex s l := by
  by_cases h : 40000 < s.size ∨ s.size % 2 ≠ 0
  · exact .inl (.inl h)
  · cases hu : unhexL s.data.toList with
    | none => exact .inl (.inr hu)
    | some l => exact .inr ⟨l, by omega, by omega, hu⟩
theorem Unhex_out (s : ByteArray) (w : World) (h : noHex s) :
    Calls Tryd.prog 17 #[.string s] w fun e w' => e = .returned (.tuple #[.string ⟨#[]⟩, .bool false]) ∧ Below w.heap.size w w' := by
  by_cases h1 : 40000 < s.size ∨ s.size % 2 ≠ 0
  · exact Unhex_no s w h1
  · have hu : unhexL s.data.toList = none := h.resolve_left h1
    have := Unhex_any s w (by omega) (by omega)
    rw [hu] at this
    exact this
theorem Unhex_yes (s : ByteArray) (l : List UInt8) (w : World) (h : isHex s l) :
    Calls Tryd.prog 17 #[.string s] w fun e w' => e = .returned (.tuple #[.string ⟨l.toArray⟩, .bool true]) ∧ Below w.heap.size w w' := by
  have := Unhex_any s w h.short h.even
  rw [h.what] at this
  exact this

/-- the figure of a half -/
def fig (x : Nat) : UInt8 := if x < 10 then UInt8.ofNat (48 + x) else UInt8.ofNat (87 + x)
def figI (x : Int) : Int := ((fig x.toNat).toNat : Int)
/-- two figures for each byte -/
def hexL (l : List UInt8) : List UInt8 := l.flatMap fun c => [fig (c.toNat / 16), fig (c.toNat % 16)]

theorem figI_bv (x : Nat) : bv (fig x) = .int .u8 (figI x) := rfl
theorem hex_take (s : ByteArray) (i : Nat) (h : i < s.size) : hexL (s.data.toList.take (i + 1)) = hexL (s.data.toList.take i) ++ [fig (s[i].toNat / 16), fig (s[i].toNat % 16)] := by
  have hl : i < s.data.toList.length := by have : s.data.size = s.size := rfl; simp; omega
  rw [List.take_succ_eq_append_getElem hl]
  simp only [hexL, List.flatMap_append]
  rfl
theorem hex_len (l : List UInt8) : (hexL l).length = 2 * l.length := by
  induction l with
  | nil => rfl
  | cons c l ih => simp only [hexL, List.flatMap_cons, List.length_append, List.length_cons, List.length_nil] at ih ⊢; omega

structure HAt (w : World) (s : ByteArray) (i : Nat) (v : Value) (wr : World) : Prop where
  le : i ≤ s.size
  own : wr.ownsRow w.heap.size 5 1 v (2 * i) ((hexL (s.data.toList.take i)).map bv)
  bel : Below w.heap.size w wr

theorem HAt.next {w wr w0 w1 : World} {s : ByteArray} {i : Nat} {v v1 : Value} {x y : Value} {o : Obj} (h : HAt w s i v wr) (hlt : i < s.size)
    (ho : w1.ownsRow w.heap.size 5 1 v1 (2 * i + 2) ((hexL (s.data.toList.take i)).map bv ++ [x, y])) (hx : bv (fig (s[i].toNat / 16)) = x) (hy : bv (fig (s[i].toNat % 16)) = y)
    (hw0 : Below w.heap.size wr w0) (hg : (w0.alloc o).grownBy w1 v.ownBlock) : HAt w s (i + 1) v1 w1 := by
  refine ⟨by omega, ?_, ?_⟩
  · rw [hex_take s i hlt]
    subst hx hy
    simpa [Nat.mul_add] using ho
  · have h1 := h.bel.trans hw0
    exact (h1.alloc h1.size o).grown hg (by have := h1.size; simp; omega) fun j hj => (h.own.lt j hj).1


/-- the figures, as the program has them -/
def figs : ByteArray := ⟨#[48, 49, 50, 51, 52, 53, 54, 55, 56, 57, 97, 98, 99, 100, 101, 102]⟩
theorem figs_at (x : Nat) (h : x < 16) : (figs[x]'h) = fig x := by
  match x, h with
  | 0, _ => rfl
  | 1, _ => rfl
  | 2, _ => rfl
  | 3, _ => rfl
  | 4, _ => rfl
  | 5, _ => rfl
  | 6, _ => rfl
  | 7, _ => rfl
  | 8, _ => rfl
  | 9, _ => rfl
  | 10, _ => rfl
  | 11, _ => rfl
  | 12, _ => rfl
  | 13, _ => rfl
  | 14, _ => rfl
  | 15, _ => rfl
  | n + 16, h => omega

theorem fig_cell (x y : Nat) (hy : y < 16) (e : y = x) : bv (fig x) = .int .u8 ((figs[y]'hy).toNat : Int) := by
  subst e; rw [figs_at]; rfl

set_option maxHeartbeats 1000000 in
set_option maxRecDepth 100000 in
theorem Hex_any (s : ByteArray) (w : World) (hs : s.size ≤ 20000) :
    Calls Tryd.prog 16 #[.string s] w fun e w' => e = .returned (.tuple #[.string ⟨(hexL s.data.toList).toArray⟩, .bool true]) ∧ Below w.heap.size w w' := by
  obtain ⟨i0, hi, hz0, hz1, hz2⟩ := info_parts Tryd.info5
  go_enter Tryd.func16, Tryd.ntmps16
  go_wp2_with (at_make; refine wpList_make_own _ rfl _ _ 22 rfl w.heap.size 5 i0 (.int .u8 0) 1 Tryd.underlying22 hi hz0 hz1 .i64 .i64 (2 * (s.size : Int)) (2 * s.size) rfl rfl (by omega) (by rw [hz2]; omega) (by unfold maxLen; omega) (Nat.le_refl _) ?_; intro w0 hown0 hgrow0)
  go_loopw [4, 5] (fun v p wr => ∃ i : Nat, p = .int .i64 i ∧ HAt w s i v wr) (fun _ p _ => s.size - (intOf p).toNat)
  case atStart => exact ⟨0, rfl, by omega, by simpa [hexL] using hown0, (Below.refl _ _).grown hgrow0 (Nat.le_refl _) (by simp)⟩
  case round =>
    obtain ⟨i, rfl, hU⟩ := hrel
    have HU : Hid (HAt w s i u4 wr) := hU
    have hown := hU.own
    have hsz := hU.bel.size
    by_cases hlt : i < s.size
    · clear hU
      have hc : (s[i].toNat : Int) < 256 := by have := s[i].toNat_lt; omega
      have hi1 : (i : Int) < (s.size : Int) := by omega
      have hi2 : (0 : Int) ≤ (i : Int) := by omega
      have hq1 : (s[i].toNat : Int) / 16 < 16 := by omega
      have hq2 : (0 : Int) ≤ (s[i].toNat : Int) / 16 := by omega
      have hq3 : (s[i].toNat : Int) % 16 < 16 := by omega
      have hq4 : (0 : Int) ≤ (s[i].toNat : Int) % 16 := by omega
      have hv1 : IntKind.u8.wrap ((s[i].toNat : Int) / 16) = (s[i].toNat : Int) / 16 := by rw [IntKind.wrap_u8]; omega
      have hv2 : IntKind.u8.wrap ((s[i].toNat : Int) % 16) = (s[i].toNat : Int) % 16 := by rw [IntKind.wrap_u8]; omega
      have hw4 : (s[i].toNat : Int).tmod 16 = (s[i].toNat : Int) % 16 := Int.tmod_eq_emod_of_nonneg (by omega)
      go_wp2_with fail
      go_region_held_law (fun _ => True) (trivial) ((refine step_append_lies _ rfl (.tmp 19) (.tmp 30) 22 rfl w.heap.size 5 i0 (.int .u8 0) 1 1 Tryd.underlying22 hi hz0 hz1 hz2 rfl (by decide) _ (2 * i) ((hexL (s.data.toList.take i)).map bv) rfl (by exact (hown.alloc _).drew) ⟨wr.heap.size, 0, none⟩ 2 2 _ rfl ?_ (World.news_of_block (by exact heap_alloc_new wr _)) ?_ (by decide) (by unfold maxLen; omega) (by omega) (by simp; omega) _ rfl ?_; rfl; (intro u hu; simp at hu; rcases hu with rfl | rfl <;> rfl); intro g cap w1 hown1 hgrow1 _ _))
      all_goals go_wp2
      all_goals go_roundw
      all_goals (try (case measure => simp [intOf]; omega))
      all_goals (case rel => exact ⟨i + 1, by go_num, HU.out.next (w0 := wr.drew) hlt (by exact hown1) (fig_cell _ _ _ (by omega)) (fig_cell _ _ _ (by omega)) ((Below.refl _ _).drew) (by exact hgrow1)⟩)
    · have HD : Hid (hexL (s.data.toList.take i) = hexL s.data.toList) := by
        show hexL (s.data.toList.take i) = hexL s.data.toList
        rw [List.take_of_length_le (by have : s.data.size = s.size := rfl; simp; omega)]
      have hstr := run_string_any hown
      clear hU
      go_wp2
      go_ret2
      exact ⟨by rw [← HD.out]; rfl, HU.out.bel⟩

set_option maxHeartbeats 400000 in
theorem Hex_no (s : ByteArray) (w : World) (hs : (20000 : Int) < (s.size : Int)) :
    Calls Tryd.prog 16 #[.string s] w fun e w' => e = .returned (.tuple #[.string ⟨#[]⟩, .bool false]) ∧ Below w.heap.size w w' := by
  go_enter Tryd.func16, Tryd.ntmps16
  go_wp2
  go_ret2
  exact ⟨rfl, Below.refl _ _⟩

end Go.Proofs.YtcbebilhbghclaaDoor.wd
