/-
  Numbers in bytes over this program's numbers: impl.VarText, impl.ReadVar.
-/
import Derived.Test.YtcbebilhbghclaaDoorPartsI
import Derived.BigQuiet
namespace Go.Proofs.YtcbebilhbghclaaDoor.wd
open Go.RowKit


/-- a byte as a cell -/
def bv (b : UInt8) : Value := .int .u8 (b.toNat : Int)

/-- the bytes of VarText, at most f + 1 of them -/
def varB : Nat → Nat → List UInt8
  | 0, n => [UInt8.ofNat n]
  | f + 1, n => if 127 < n then UInt8.ofNat (n % 128 + 128) :: varB f (n / 128) else [UInt8.ofNat n]

theorem varB_big (f n : Nat) (h : 127 < n) : varB (f + 1) n = UInt8.ofNat (n % 128 + 128) :: varB f (n / 128) := by
  simp [varB, h]
theorem varB_small (f n : Nat) (h : n ≤ 127) : varB f n = [UInt8.ofNat n] := by
  cases f with
  | zero => rfl
  | succ f => simp [varB, show ¬ 127 < n by omega]

theorem run_string_own {w : World} {base n cap g : Nat} {l : List UInt8} (h : w.ownsRow base 5 1 (.slice (some ⟨g, 0, none⟩) n cap) n (l.map bv)) :
    (convert 22 9 (.slice (some ⟨g, 0, none⟩) n cap)).run Tryd.prog w = .ok (.string ⟨l.toArray⟩) w := by
  have hn : n = l.length := by have := h.1; simp at this; omega
  subst hn
  refine run_convert_bytes_back w 22 9 5 ⟨g, 0, none⟩ cap l Tryd.underlying22 Tryd.underlying5 Tryd.underlying9 fun j hj => ?_
  have := h.cellAt j (by omega)
  have e : (⟨g, 0, none⟩ : Addr).add j = ⟨g, j, none⟩ := by unfold Addr.add; split <;> simp_all
  rw [e, this]
  simp [bv, hj]


/-- a number below this has at most f + 1 bytes -/
def lim (f : Nat) : Nat := 128 ^ (f + 1)
theorem lim_step {m f : Nat} (h : m < lim f) (hm : 127 < m) : ∃ f', f = f' + 1 ∧ m / 128 < lim f' := by
  cases f with
  | zero => simp [lim] at h; omega
  | succ f => exact ⟨f, rfl, by simp only [lim] at h ⊢; rw [Nat.pow_succ] at h; omega⟩
theorem lim_max {n : Nat} (h : n ≤ 9223372036854775807) : n < lim 9 := by simp only [lim]; omega

theorem own_snoc {w1 : World} {B k : Nat} {v x : Value} {pre : List UInt8} {b : UInt8} (h : w1.ownsRow B 5 1 v k (pre.map bv ++ [x])) (hx : bv b = x) : w1.ownsRow B 5 1 v k ((pre ++ [b]).map bv) := by
  subst hx; simpa using h
/-- the world behind an append onto what the call owns -/
theorem below_app {w wr w1 : World} {v : Value} {k : Nat} {xs : List Value} {o : Obj} (hbel : Below w.heap.size w wr) (hown : wr.ownsRow w.heap.size 5 1 v k xs) (hg : (wr.alloc o).grownBy w1 v.ownBlock) : Below w.heap.size w w1 :=
  (hbel.alloc hbel.size o).grown hg (by have := hbel.size; simp; omega) fun j hj => (hown.lt j hj).1

/-- what holds at the head of each round: pre is told, m is left -/
def VarRel (w : World) (N : Nat) (nv v : Value) (wr : World) : Prop :=
  ∃ (m f k : Nat) (pre : List UInt8), nv = .int .i64 m ∧ m < lim f ∧ m ≤ 9223372036854775807 ∧ k + f = 9 ∧ wr.ownsRow w.heap.size 5 1 v k (pre.map bv) ∧ pre ++ varB f m = varB 9 N ∧ Below w.heap.size w wr

set_option maxHeartbeats 400000 in
theorem VarText_yes (n : Nat) (w : World) (hn : n ≤ 1000000000) :
    Calls Tryd.prog 9 #[.int .i64 n] w fun e w' => e = .returned (.tuple #[.string ⟨(varB 9 n).toArray⟩, .bool true]) ∧ Below w.heap.size w w' := by
  obtain ⟨i0, hi, hz0, hz1, hz2⟩ := info_parts Tryd.info5
  go_enter Tryd.func9, Tryd.ntmps9
  go_wp2
  go_loopw [0, 4] (fun nv v wr => VarRel w n nv v wr) (fun nv _ _ => (intOf nv).toNat)
  case atStart => exact ⟨n, 9, 0, [], rfl, lim_max (by omega), by omega, rfl, World.ownsRow_made w #[] 0 (Nat.le_refl _) (Nat.zero_le _) rfl, rfl, (Below.refl _ _).alloc (Nat.le_refl _) _⟩
  case round =>
    obtain ⟨m, f, k, pre, rfl, hm, hmx, hk, hown, heq, hbel⟩ := hrel
    have hsz := hbel.size
    by_cases hlt : 127 < m
    · obtain ⟨f', rfl, hm'⟩ := lim_step hm hlt
      have hb : bv (UInt8.ofNat (m % 128 + 128)) = .int .u8 ((m : Int) % 128 + 128) := by simp [bv]; omega
      have HQ : Hid (pre ++ varB (f' + 1) m = varB 9 n) := heq
      have HB : Hid (bv (UInt8.ofNat (m % 128 + 128)) = .int .u8 ((m : Int) % 128 + 128)) := hb
      clear hm heq hb
      go_wp2_with (at_builtin; refine wpList_append_lies _ rfl (.tmp 14) (.tmp 19) 22 rfl w.heap.size 5 i0 (.int .u8 0) 1 1 Tryd.underlying22 hi hz0 hz1 hz2 rfl (by decide) _ k (pre.map bv) rfl (hown.alloc _) ⟨wr.heap.size, 0, none⟩ 1 1 [.int .u8 ((m : Int) % 128 + 128)] rfl rfl (cell_one_new _ _ _) (by simp [Value.oneCell']) (by decide) (by unfold maxLen; omega) (by omega) (by simp; omega) _ rfl ?_; intro g cap w1 hown1 hgrow1 _ _)
      go_roundw
      case rel => exact ⟨m / 128, f', k + 1, pre ++ [UInt8.ofNat (m % 128 + 128)], by go_num, hm', by omega, by omega, own_snoc hown1 HB.out, by rw [← HQ.out, varB_big _ _ hlt]; simp, below_app hbel hown hgrow1⟩
      case measure => simp [intOf]; omega
    · have hb : bv (UInt8.ofNat m) = .int .u8 (m : Int) := by simp [bv]; omega
      have HQ : Hid (pre ++ varB f m = varB 9 n) := heq
      have HB : Hid (bv (UInt8.ofNat m) = .int .u8 (m : Int)) := hb
      clear hm heq hb
      go_wp2_with (at_builtin; refine wpList_append_lies _ rfl (.tmp 23) (.tmp 26) 22 rfl w.heap.size 5 i0 (.int .u8 0) 1 1 Tryd.underlying22 hi hz0 hz1 hz2 rfl (by decide) _ k (pre.map bv) rfl (hown.alloc _) ⟨wr.heap.size, 0, none⟩ 1 1 [.int .u8 (m : Int)] rfl rfl (cell_one_new _ _ _) (by simp [Value.oneCell']) (by decide) (by unfold maxLen; omega) (by omega) (by simp; omega) _ rfl ?_; intro g cap w1 hown1 hgrow1 _ _; have hstr := run_string_own (own_snoc hown1 HB.out))
      go_ret2
      rw [varB_small _ _ (by omega)] at HQ
      exact ⟨by rw [HQ.out]; rfl, below_app hbel hown hgrow1⟩

set_option maxHeartbeats 400000 in
theorem VarText_no (n : Int) (w : World) (hn : n < 0 ∨ 1000000000 < n) :
    Calls Tryd.prog 9 #[.int .i64 n] w fun e w' => e = .returned (.tuple #[.string ⟨#[]⟩, .bool false]) ∧ Below w.heap.size w w' := by
  rcases hn with hn | hn
  · go_enter Tryd.func9, Tryd.ntmps9
    go_wp2
    go_ret2
    exact ⟨rfl, Below.refl _ _⟩
  · have h0 : ¬ n < 0 := by omega
    go_enter Tryd.func9, Tryd.ntmps9
    go_wp2
    go_ret2
    exact ⟨rfl, Below.refl _ _⟩


/-- what is read: f bytes at most, acc so far, the next byte counts sc, k bytes are behind -/
def rd : Nat → Nat → Nat → Nat → List UInt8 → Option (Nat × Nat)
  | 0, _, _, _, _ => none
  | _ + 1, _, _, _, [] => none
  | f + 1, acc, sc, k, b :: l =>
    if b.toNat < 128 then (if (b.toNat = 0 ∧ 0 < k) ∨ 1000000000 < acc + b.toNat % 128 * sc then none else some (acc + b.toNat % 128 * sc, k + 1))
    else rd f (acc + b.toNat % 128 * sc) (sc * 128) (k + 1) l

def rdv (s : ByteArray) (a : Nat) : Option (Nat × Nat) := (rd 5 0 1 0 (s.data.toList.drop a)).map fun x => (x.1, a + x.2)

theorem rd_end (f acc sc k a : Nat) (l : List UInt8) (h : l.length ≤ a) : rd f acc sc k (l.drop a) = none := by
  rw [List.drop_of_length_le h]; cases f <;> rfl
theorem rd_cons (f acc sc k a : Nat) (l : List UInt8) (h : a < l.length) : rd (f + 1) acc sc k (l.drop a) =
    if l[a].toNat < 128 then (if (l[a].toNat = 0 ∧ 0 < k) ∨ 1000000000 < acc + l[a].toNat % 128 * sc then none else some (acc + l[a].toNat % 128 * sc, k + 1))
    else rd f (acc + l[a].toNat % 128 * sc) (sc * 128) (k + 1) (l.drop (a + 1)) := by
  rw [List.drop_eq_getElem_cons h]; rfl

theorem rd_le : ∀ (f acc sc k : Nat) (l : List UInt8) (n p : Nat), rd f acc sc k l = some (n, p) → n ≤ 1000000000 ∧ p ≤ k + l.length
  | 0, _, _, _, _, _, _, h => by simp [rd] at h
  | _ + 1, _, _, _, [], _, _, h => by simp [rd] at h
  | f + 1, acc, sc, k, b :: l, n, p, h => by
    simp only [rd] at h
    split at h
    · split at h
      · cases h
      · simp only [Option.some.injEq, Prod.mk.injEq] at h
        simp only [List.length_cons]; omega
    · have := rd_le f _ _ _ l n p h
      simp only [List.length_cons]; omega

theorem rdv_le {s : ByteArray} {a n p : Nat} (ha : a ≤ s.size) (h : rdv s a = some (n, p)) : n ≤ 1000000000 ∧ p ≤ s.size := by
  unfold rdv at h
  cases hr : rd 5 0 1 0 (s.data.toList.drop a) with
  | none => simp [hr] at h
  | some x =>
    simp [hr] at h
    have := rd_le _ _ _ _ _ x.1 x.2 hr
    simp at this
    have hs : s.data.size = s.size := rfl
    omega

/-- the number of these bytes -/
def valB : List UInt8 → Nat
  | [] => 0
  | b :: l => b.toNat % 128 + 128 * valB l

theorem valB_snoc (l : List UInt8) (c : UInt8) : valB (l ++ [c]) = valB l + c.toNat % 128 * 128 ^ l.length := by
  induction l with
  | nil => simp [valB]
  | cons b l ih =>
    simp only [List.cons_append, valB, ih, List.length_cons, Nat.pow_succ]
    rw [Nat.mul_add, Nat.mul_comm (128 ^ l.length) 128, ← Nat.mul_assoc, ← Nat.mul_assoc, Nat.mul_comm 128 (c.toNat % 128)]
    omega

theorem valB_pos (l : List UInt8) (c : UInt8) (hc : c.toNat < 128) (h0 : c.toNat ≠ 0) : 0 < valB (l ++ [c]) := by
  induction l with
  | nil => simp [valB]; omega
  | cons b l ih => simp only [List.cons_append, valB]; omega

theorem valB_lt (l : List UInt8) : valB l < 128 ^ l.length := by
  induction l with
  | nil => simp [valB]
  | cons b l ih => simp only [valB, List.length_cons, Nat.pow_succ]; omega

theorem varB_val (c : UInt8) (hc : c.toNat < 128) (h0 : c.toNat ≠ 0) : ∀ (pre : List UInt8) (f : Nat), (∀ x ∈ pre, 128 ≤ x.toNat) → pre.length ≤ f → varB f (valB (pre ++ [c])) = pre ++ [c]
  | [], f, _, _ => by
    simp only [List.nil_append, valB]
    rw [varB_small _ _ (by omega)]
    have : c.toNat % 128 + 128 * 0 = c.toNat := by omega
    rw [this]; simp
  | b :: l, 0, _, h => by simp at h
  | b :: l, f + 1, hp, h => by
    have hb := hp b (by simp)
    have hlt : b.toNat < 256 := b.toNat_lt
    have ih := varB_val c hc h0 l f (fun x hx => hp x (by simp [hx])) (by simpa using h)
    have hpos := valB_pos l c hc h0
    simp only [List.cons_append, valB]
    rw [varB_big _ _ (by omega)]
    have e1 : (b.toNat % 128 + 128 * valB (l ++ [c])) % 128 + 128 = b.toNat := by omega
    have e2 : (b.toNat % 128 + 128 * valB (l ++ [c])) / 128 = valB (l ++ [c]) := by omega
    rw [e1, e2, ih]; simp

theorem varB_last : ∀ (f n : Nat), n < 128 ^ (f + 1) → 0 < n → ∃ l c, varB f n = l ++ [c] ∧ c.toNat ≠ 0
  | 0, n, h, h0 => ⟨[], UInt8.ofNat n, rfl, by simp at h ⊢; omega⟩
  | f + 1, n, h, h0 => by
    by_cases hn : 127 < n
    · obtain ⟨l, c, e, hc⟩ := varB_last f (n / 128) (by rw [Nat.pow_succ] at h; omega) (by omega)
      exact ⟨UInt8.ofNat (n % 128 + 128) :: l, c, by rw [varB_big _ _ hn, e]; rfl, hc⟩
    · exact ⟨[], UInt8.ofNat n, by rw [varB_small _ _ (by omega)]; rfl, by simp; omega⟩

/-- a longer form is not what is written -/
theorem varB_longer (pre : List UInt8) (c : UInt8) (h0 : c.toNat = 0) (hp : 0 < pre.length) (f : Nat) (hf : pre.length < f) : varB f (valB (pre ++ [c])) ≠ pre ++ [c] := by
  intro h
  rw [valB_snoc, h0] at h
  by_cases hv : valB pre = 0
  · rw [hv] at h
    have h2 := congrArg List.length h
    rw [varB_small _ _ (by simp)] at h2
    simp only [List.length_append, List.length_cons, List.length_nil] at h2
    omega
  · have hlt := valB_lt pre
    have : (128 : Nat) ^ pre.length ≤ 128 ^ (f + 1) := Nat.pow_le_pow_right (by omega) (by omega)
    obtain ⟨l, d, e, hd⟩ := varB_last f (valB pre + 0 % 128 * 128 ^ pre.length) (by simp; omega) (by simp; omega)
    rw [e] at h
    have := List.append_inj_right' h rfl
    simp at this
    subst this
    exact hd h0

theorem varB_iff (pre : List UInt8) (c : UInt8) (hc : c.toNat < 128) (hp : ∀ x ∈ pre, 128 ≤ x.toNat) (hl : pre.length < 9) :
    (varB 9 (valB (pre ++ [c])) = pre ++ [c]) ↔ ¬ (c.toNat = 0 ∧ 0 < pre.length) := by
  constructor
  · rintro h ⟨h0, h1⟩
    exact varB_longer pre c h0 h1 9 hl h
  · intro h
    by_cases h0 : c.toNat = 0
    · have : pre = [] := by
        cases pre with
        | nil => rfl
        | cons b l => exact absurd ⟨h0, by simp⟩ h
      subst this
      simp only [List.nil_append, valB, h0]
      rw [varB_small _ _ (by omega)]
      simp
      exact UInt8.toNat_inj.1 (by simp [h0])
    · exact varB_val c hc h0 pre 9 hp (by omega)


def rdRes : Option (Nat × Nat) → Value
  | none => .tuple #[.int .i64 0, .int .i64 0, .bool false]
  | some x => .tuple #[.int .i64 (x.1 : Int), .int .i64 (x.2 : Int), .bool true]

/-- at the head of each round: j bytes are behind -/
def RdRel (s : ByteArray) (a : Nat) (j : Nat) (n : Nat) : Prop :=
  a + j ≤ s.size ∧ j ≤ 5 ∧ n < 128 ^ j ∧ rd (5 - j) n (128 ^ j) j (s.data.toList.drop (a + j)) = rd 5 0 1 0 (s.data.toList.drop a)

theorem RdRel.next {s : ByteArray} {a j m : Nat} (h : RdRel s a j m) (hj : j < 5) (hlt : a + j < s.size) (hb : (127 : Int) < (s[a + j].toNat : Int)) : RdRel s a (j + 1) (m + s[a + j].toNat % 128 * 128 ^ j) := by
  obtain ⟨h1, h2, h3, h4⟩ := h
  refine ⟨by omega, by omega, ?_, ?_⟩
  · rw [Nat.pow_succ]
    have : s[a + j].toNat % 128 * 128 ^ j ≤ 127 * 128 ^ j := Nat.mul_le_mul_right _ (by omega)
    omega
  · rw [← h4, show 5 - j = (5 - (j + 1)) + 1 by omega, rd_cons _ _ _ _ _ _ (by simpa using hlt), if_neg (by show ¬ s[a + j].toNat < 128; omega)]
    rw [Nat.pow_succ]; rfl

theorem RdRel.none_of {s : ByteArray} {a j m : Nat} (h : RdRel s a j m) (hj : j < 5) (hlt : a + j < s.size) (hb : (s[a + j].toNat : Int) ≤ 127) (hn : (s[a + j].toNat = 0 ∧ 0 < j) ∨ 1000000000 < m + s[a + j].toNat % 128 * 128 ^ j) : rdv s a = none := by
  obtain ⟨h1, h2, h3, h4⟩ := h
  unfold rdv
  rw [← h4, show 5 - j = (5 - (j + 1)) + 1 by omega, rd_cons _ _ _ _ _ _ (by simpa using hlt), if_pos (by show s[a + j].toNat < 128; omega), if_pos (by exact hn)]
  rfl

theorem RdRel.some_of {s : ByteArray} {a j m : Nat} (h : RdRel s a j m) (hj : j < 5) (hlt : a + j < s.size) (hb : (s[a + j].toNat : Int) ≤ 127) (hn : ¬ ((s[a + j].toNat = 0 ∧ 0 < j) ∨ 1000000000 < m + s[a + j].toNat % 128 * 128 ^ j)) : rdv s a = some (m + s[a + j].toNat % 128 * 128 ^ j, a + (j + 1)) := by
  obtain ⟨h1, h2, h3, h4⟩ := h
  unfold rdv
  rw [← h4, show 5 - j = (5 - (j + 1)) + 1 by omega, rd_cons _ _ _ _ _ _ (by simpa using hlt), if_pos (by show s[a + j].toNat < 128; omega), if_neg (by exact hn)]
  rfl

theorem RdRel.at_end {s : ByteArray} {a j m : Nat} (h : RdRel s a j m) (hlt : ¬ a + j < s.size) : rdv s a = none := by
  obtain ⟨h1, h2, h3, h4⟩ := h
  unfold rdv
  rw [← h4, rd_end _ _ _ _ _ _ (by have : s.data.size = s.size := rfl; simp; omega)]
  rfl

theorem RdRel.at_five {s : ByteArray} {a m : Nat} (h : RdRel s a 5 m) : rdv s a = none := by
  obtain ⟨h1, h2, h3, h4⟩ := h
  unfold rdv
  rw [← h4]
  rfl

theorem ret_none {s : ByteArray} {a : Nat} (h : rdv s a = none) : Ending.returned (.tuple #[.int .i64 0, .int .i64 0, .bool false]) = .returned (rdRes (rdv s a)) := by rw [h]; rfl
theorem ret_some {s : ByteArray} {a x y : Nat} {n p : Int} (h : rdv s a = some (x, y)) (hn : n = x) (hp : p = y) : Ending.returned (.tuple #[.int .i64 n, .int .i64 p, .bool true]) = .returned (rdRes (rdv s a)) := by rw [h, hn, hp]; rfl

set_option maxHeartbeats 1000000 in
set_option maxRecDepth 100000 in
theorem ReadVar_any (s : ByteArray) (a : Nat) (w : World) (hs : s.size ≤ 1048576) (ha : a ≤ s.size) :
    Calls Tryd.prog 10 #[.string s, .int .i64 a] w fun e w' => e = .returned (rdRes (rdv s a)) ∧ Below w.heap.size w w' := by
  have h0 : ¬ (a : Int) < 0 := by omega
  go_enter Tryd.func10, Tryd.ntmps10
  go_wp2
  go_loop [7, 8, 9] (fun n sh p => ∃ j m : Nat, n = .int .i64 m ∧ sh = .int .i64 (7 * j : Nat) ∧ p = .int .i64 (a + j : Nat) ∧ RdRel s a j m) (fun _ _ p => s.size + 5 - (intOf p).toNat)
  case atStart => exact ⟨0, 0, rfl, rfl, rfl, ha, by omega, by simp, rfl⟩
  case round =>
    obtain ⟨j, m, rfl, rfl, rfl, hR⟩ := hrel
    have hj5 := hR.2.1
    by_cases hlt : a + j < s.size
    · rcases (show j = 0 ∨ j = 1 ∨ j = 2 ∨ j = 3 ∨ j = 4 ∨ j = 5 by omega) with rfl | rfl | rfl | rfl | rfl | rfl
      · have HR : Hid (RdRel s a 0 m) := hR
        clear hR
        simp only [Nat.add_zero] at hlt
        have hm : m < 1 := HR.out.2.2.1
        have hc : (s[a].toNat : Int) < 256 := by have := s[a].toNat_lt; omega
        go_wp2
        all_goals first
          | (go_round; (case rel => exact ⟨1, m + s[a].toNat % 128 * 128 ^ 0, by go_num, by go_num, by go_num, HR.out.next (by omega) (by exact hlt) (by assumption)⟩); (case measure => simp [intOf]; omega))
          | (have hN : rdv s a = none := HR.out.none_of (by omega) (by exact hlt) (by assumption) (by show (s[a].toNat = 0 ∧ 0 < 0) ∨ 1000000000 < m + s[a].toNat % 128 * 128 ^ 0; simp only [Nat.reducePow]; omega); go_ret3; exact ⟨ret_none hN, Below.refl _ _⟩)
          | (have hS : rdv s a = some (m + s[a].toNat % 128 * 128 ^ 0, a + 1) := HR.out.some_of (by omega) (by exact hlt) (by assumption) (by show ¬ ((s[a].toNat = 0 ∧ 0 < 0) ∨ 1000000000 < m + s[a].toNat % 128 * 128 ^ 0); simp only [Nat.reducePow]; omega); go_ret3; exact ⟨ret_some hS (by simp only [Nat.reducePow]; omega) (by omega), Below.refl _ _⟩)
      · have HR : Hid (RdRel s a 1 m) := hR
        clear hR
        have hm : m < 128 := HR.out.2.2.1
        have hc : (s[a + 1].toNat : Int) < 256 := by have := s[a + 1].toNat_lt; omega
        go_wp2
        all_goals first
          | (go_round; (case rel => exact ⟨2, m + s[a + 1].toNat % 128 * 128 ^ 1, by go_num, by go_num, by go_num, HR.out.next (by omega) (by exact hlt) (by assumption)⟩); (case measure => simp [intOf]; omega))
          | (have hN : rdv s a = none := HR.out.none_of (by omega) (by exact hlt) (by assumption) (by show (s[a + 1].toNat = 0 ∧ 0 < 1) ∨ 1000000000 < m + s[a + 1].toNat % 128 * 128 ^ 1; simp only [Nat.reducePow]; omega); go_ret3; exact ⟨ret_none hN, Below.refl _ _⟩)
          | (have hS := HR.out.some_of (by omega) (by exact hlt) (by assumption) (by show ¬ ((s[a + 1].toNat = 0 ∧ 0 < 1) ∨ 1000000000 < m + s[a + 1].toNat % 128 * 128 ^ 1); simp only [Nat.reducePow]; omega); go_ret3; exact ⟨ret_some hS (by simp only [Nat.reducePow]; omega) (by omega), Below.refl _ _⟩)
      · have HR : Hid (RdRel s a 2 m) := hR
        clear hR
        have hm : m < 16384 := HR.out.2.2.1
        have hc : (s[a + 2].toNat : Int) < 256 := by have := s[a + 2].toNat_lt; omega
        go_wp2
        all_goals first
          | (go_round; (case rel => exact ⟨3, m + s[a + 2].toNat % 128 * 128 ^ 2, by go_num, by go_num, by go_num, HR.out.next (by omega) (by exact hlt) (by assumption)⟩); (case measure => simp [intOf]; omega))
          | (have hN : rdv s a = none := HR.out.none_of (by omega) (by exact hlt) (by assumption) (by show (s[a + 2].toNat = 0 ∧ 0 < 2) ∨ 1000000000 < m + s[a + 2].toNat % 128 * 128 ^ 2; simp only [Nat.reducePow]; omega); go_ret3; exact ⟨ret_none hN, Below.refl _ _⟩)
          | (have hS := HR.out.some_of (by omega) (by exact hlt) (by assumption) (by show ¬ ((s[a + 2].toNat = 0 ∧ 0 < 2) ∨ 1000000000 < m + s[a + 2].toNat % 128 * 128 ^ 2); simp only [Nat.reducePow]; omega); go_ret3; exact ⟨ret_some hS (by simp only [Nat.reducePow]; omega) (by omega), Below.refl _ _⟩)
      · have HR : Hid (RdRel s a 3 m) := hR
        clear hR
        have hm : m < 2097152 := HR.out.2.2.1
        have hc : (s[a + 3].toNat : Int) < 256 := by have := s[a + 3].toNat_lt; omega
        go_wp2
        all_goals first
          | (go_round; (case rel => exact ⟨4, m + s[a + 3].toNat % 128 * 128 ^ 3, by go_num, by go_num, by go_num, HR.out.next (by omega) (by exact hlt) (by assumption)⟩); (case measure => simp [intOf]; omega))
          | (have hN : rdv s a = none := HR.out.none_of (by omega) (by exact hlt) (by assumption) (by show (s[a + 3].toNat = 0 ∧ 0 < 3) ∨ 1000000000 < m + s[a + 3].toNat % 128 * 128 ^ 3; simp only [Nat.reducePow]; omega); go_ret3; exact ⟨ret_none hN, Below.refl _ _⟩)
          | (have hS := HR.out.some_of (by omega) (by exact hlt) (by assumption) (by show ¬ ((s[a + 3].toNat = 0 ∧ 0 < 3) ∨ 1000000000 < m + s[a + 3].toNat % 128 * 128 ^ 3); simp only [Nat.reducePow]; omega); go_ret3; exact ⟨ret_some hS (by simp only [Nat.reducePow]; omega) (by omega), Below.refl _ _⟩)
      · have HR : Hid (RdRel s a 4 m) := hR
        clear hR
        have hm : m < 268435456 := HR.out.2.2.1
        have hc : (s[a + 4].toNat : Int) < 256 := by have := s[a + 4].toNat_lt; omega
        go_wp2
        all_goals first
          | (go_round; (case rel => exact ⟨5, m + s[a + 4].toNat % 128 * 128 ^ 4, by go_num, by go_num, by go_num, HR.out.next (by omega) (by exact hlt) (by assumption)⟩); (case measure => simp [intOf]; omega))
          | (have hN : rdv s a = none := HR.out.none_of (by omega) (by exact hlt) (by assumption) (by show (s[a + 4].toNat = 0 ∧ 0 < 4) ∨ 1000000000 < m + s[a + 4].toNat % 128 * 128 ^ 4; simp only [Nat.reducePow]; omega); go_ret3; exact ⟨ret_none hN, Below.refl _ _⟩)
          | (have hS := HR.out.some_of (by omega) (by exact hlt) (by assumption) (by show ¬ ((s[a + 4].toNat = 0 ∧ 0 < 4) ∨ 1000000000 < m + s[a + 4].toNat % 128 * 128 ^ 4); simp only [Nat.reducePow]; omega); go_ret3; exact ⟨ret_some hS (by simp only [Nat.reducePow]; omega) (by omega), Below.refl _ _⟩)
      · have HR : Hid (rdv s a = none) := hR.at_five
        clear hR
        go_wp2
        go_ret3
        exact ⟨by rw [HR.out]; rfl, Below.refl _ _⟩
    · have HR : Hid (rdv s a = none) := hR.at_end hlt
      clear hR
      go_wp2
      go_ret3
      exact ⟨by rw [HR.out]; rfl, Below.refl _ _⟩

/-- nothing stands there -/
def noVar (s : ByteArray) (a : Int) : Prop := a < 0 ∨ (s.size : Int) < a ∨ rdv s a.toNat = none
/-- n stands there, p is behind it -/
structure isVar (s : ByteArray) (a : Int) (n p : Nat) : Prop where
  lo : 0 ≤ a
  hi : a ≤ s.size
  rd : rdv s a.toNat = some (n, p)
  num : n ≤ 1000000000
  place : p ≤ s.size
theorem var_cases (s : ByteArray) (a : Int) : noVar s a ∨ ∃ n p, isVar s a n p := by
  by_cases h : 0 ≤ a ∧ a ≤ s.size
  · cases hr : rdv s a.toNat with
    | none => exact .inl (.inr (.inr hr))
    | some x =>
      have := rdv_le (n := x.1) (p := x.2) (show a.toNat ≤ s.size by omega) hr
      exact .inr ⟨x.1, x.2, h.1, h.2, hr, this.1, this.2⟩
  · refine .inl ?_
    unfold noVar
    omega

set_option maxHeartbeats 400000 in
theorem ReadVar_out (s : ByteArray) (a : Int) (w : World) (ha : a < 0 ∨ (s.size : Int) < a) :
    Calls Tryd.prog 10 #[.string s, .int .i64 a] w fun e w' => e = .returned (.tuple #[.int .i64 0, .int .i64 0, .bool false]) ∧ Below w.heap.size w w' := by
  by_cases h : a < 0
  · clear ha
    go_enter Tryd.func10, Tryd.ntmps10
    go_wp2
    go_ret3
    exact ⟨rfl, Below.refl _ _⟩
  · have h1 : (s.size : Int) < a := by omega
    clear ha
    go_enter Tryd.func10, Tryd.ntmps10
    go_wp2
    go_ret3
    exact ⟨rfl, Below.refl _ _⟩
theorem ReadVar_no (s : ByteArray) (a : Int) (w : World) (hs : s.size ≤ 1048576) (h : noVar s a) :
    Calls Tryd.prog 10 #[.string s, .int .i64 a] w fun e w' => e = .returned (.tuple #[.int .i64 0, .int .i64 0, .bool false]) ∧ Below w.heap.size w w' := by
  by_cases ho : a < 0 ∨ (s.size : Int) < a
  · exact ReadVar_out s a w ho
  · obtain ⟨k, rfl⟩ := Int.eq_ofNat_of_zero_le (show 0 ≤ a by omega)
    have hn : rdv s k = none := by
      rcases h with h | h | h
      · omega
      · omega
      · exact h
    have := ReadVar_any s k w hs (by omega)
    rw [hn] at this
    exact this
theorem ReadVar_yes (s : ByteArray) (a : Int) (n p : Nat) (w : World) (hs : s.size ≤ 1048576) (h : isVar s a n p) :
    Calls Tryd.prog 10 #[.string s, .int .i64 a] w fun e w' => e = .returned (.tuple #[.int .i64 (n : Int), .int .i64 (p : Int), .bool true]) ∧ Below w.heap.size w w' := by
  obtain ⟨k, rfl⟩ := Int.eq_ofNat_of_zero_le h.lo
  have hi := h.hi
  have hr : rdv s k = some (n, p) := h.rd
  have := ReadVar_any s k w hs (by omega)
  rw [hr] at this
  exact this

end Go.Proofs.YtcbebilhbghclaaDoor.wd
