import Derived.Test.YtbepmeipjdpipaaGreatJn01
import Derived.Deep.DeepCutAuto
import Derived.Laws.RangeAny
import Derived.Test.YtbepmeipjdpipaaGreatJn02
import Derived.Deep.Strs
import Derived.Deep.SlicePairs
import Derived.ProofKit
import Derived.OpenShut
import Derived.ChangeOld
import Derived.Laws.AppendOwnNone
import Derived.Deep.RegionHeldLaw
import Derived.Laws.MakeOwn
import Derived.WalkKit
import Derived.Deep.CutBlock
namespace Go.Proofs.YtbepmeipjdpipaaGreat
open Go.RowKit

def btq (s : ByteArray) (i : Nat) : Nat := if h : i < s.size then s[i].toNat else 0
theorem btq_lt {s : ByteArray} {i : Nat} (h : i < s.size) : btq s i = s[i].toNat := by simp [btq, h]
def isLet (b : Nat) : Bool := decide (97 ≤ b) && decide (b ≤ 122)
def letTo (s : ByteArray) (k : Nat) : Bool := (List.range k).all fun i => isLet (btq s i)
theorem letTo_succ (s : ByteArray) (k : Nat) : letTo s (k + 1) = (letTo s k && isLet (btq s k)) := by simp [letTo, List.range_succ]
theorem letTo_no {s : ByteArray} {i k : Nat} (h : i < k) (h1 : isLet (btq s i) = false) : letTo s k = false := by
  rw [Bool.eq_false_iff]
  intro e
  have := List.all_eq_true.1 e i (List.mem_range.2 h)
  rw [h1] at this; cases this
def eachT : ByteArray := ⟨#[101, 97, 99, 104]⟩
theorem eachT_list : eachT.toList = [101, 97, 99, 104] := by decide +kernel
def qname (s : ByteArray) : Bool := letTo s s.size && (decide (1 ≤ s.size) && decide (s.size ≤ 4)) && !(s.toList == eachT.toList)

theorem isLetter_any (x : Int) (r : Bool) (w : World) (hr : r = (decide (97 ≤ x) && decide (x ≤ 122))) : Calls Tryz.prog 63 #[.int .i32 x] w fun e w' => e = .returned (.bool r) ∧ w = w' := by
  by_cases h1 : 97 ≤ x
  · obtain ⟨d, hd⟩ : ∃ d, decide (x ≤ 122) = d := ⟨_, rfl⟩
    have hr2 : r = d := by rw [hr, hd]; simp [h1]
    subst hr2
    clear hr
    go_enter Tryz.func63, Tryz.ntmps63
    go_wp2
    go_ret
    exact ⟨rfl, rfl⟩
  · have hr2 : r = false := by rw [hr]; simp [h1]
    subst hr2
    clear hr
    go_enter Tryz.func63, Tryz.ntmps63
    go_wp2
    go_ret
    exact ⟨rfl, rfl⟩

set_option maxHeartbeats 2000000 in
theorem specQName_any (T : ByteArray) (n : Nat) (r : Bool) (w : World) (hn : T.size = n) (hm : n ≤ 1048576) (hr : r = qname T) : Calls Tryz.prog 42 #[.string T] w fun e w' => e = .returned (.bool r) ∧ w = w' := by
  have HN : Hid (T.size = n) := hn
  have HR : Hid (r = (letTo T n && (decide (1 ≤ n) && decide (n ≤ 4)) && !(T.toList == eachT.toList))) := by show _ = _; rw [hr]; unfold qname; rw [hn]
  have hsz : (T.size : Int) = (n : Int) := by rw [hn]
  clear hn hr
  go_enter Tryz.func42, Tryz.ntmps42
  go_wp2
  go_loop [3] (fun i => ∃ k : Nat, i = .int .i64 k ∧ k ≤ n ∧ Hid (letTo T k = true)) (fun i => n - (intOf i).toNat)
  case atStart => exact ⟨0, rfl, by omega, rfl⟩
  case round =>
    obtain ⟨k, rfl, hk, HE⟩ := hrel
    by_cases hlt : k < n
    · have hlt1 : (k : Int) < (n : Int) := by omega
      have hlt0 : (0 : Int) ≤ (k : Int) := by omega
      have hkT : k < T.size := by rw [HN.out]; exact hlt
      have hk2 : (k : Int) < (T.size : Int) := by omega
      have HB : Hid ((T[k]'hkT).toNat = btq T k) := by show _ = _; rw [btq_lt hkT]
      by_cases h1 : (((T[k]'hkT).toNat : Nat) : Int) < 97
      · have hf : Hid (r = false) := by
          show _ = _
          rw [HR.out, letTo_no hlt (by rw [← HB.out]; unfold isLet; simp; omega)]; rfl
        go_wp2
        go_ret
        exact ⟨by rw [hf.out]; rfl, rfl⟩
      · by_cases h2 : (((T[k]'hkT).toNat : Nat) : Int) > 122
        · have hf : Hid (r = false) := by
            show _ = _
            rw [HR.out, letTo_no hlt (by rw [← HB.out]; unfold isLet; simp; omega)]; rfl
          go_wp2
          go_ret
          exact ⟨by rw [hf.out]; rfl, rfl⟩
        · have HS : Hid (letTo T (k + 1) = true) := by
            show _ = _
            rw [letTo_succ, HE.out, ← HB.out]; unfold isLet; simp; omega
          go_wp2
          go_roundw
          case rel => exact ⟨k + 1, by go_num, by omega, HS⟩
          case measure => simp [intOf]; omega
    · obtain rfl : k = n := by omega
      obtain ⟨d, HD⟩ : ∃ d, Hid (d = (decide (1 ≤ (k : Int)) && decide ((k : Int) ≤ 4))) := ⟨_, rfl⟩
      obtain ⟨e, he⟩ : ∃ e, (T.toList == eachT.toList) = e := ⟨_, rfl⟩
      have HRD : Hid (r = (d && !e)) := by
        show _ = _
        rw [HR.out, HE.out, HD.out, he, show decide (1 ≤ (k : Int)) = decide (1 ≤ k) from decide_eq_decide.2 (by omega), show decide ((k : Int) ≤ 4) = decide (k ≤ 4) from decide_eq_decide.2 (by omega), Bool.true_and]
      have HC : Hid (∀ w0, Calls Tryz.prog 20 #[.int .i64 (k : Int), .int .i64 1, .int .i64 4] w0 fun e w' => e = .returned (.bool d) ∧ w0 = w') := fun w0 => by rw [HD.out]; exact l01In_any (k : Int) 1 4 w0
      have he2 : (T.toList == [101, 97, 99, 104]) = e := by rw [← eachT_list]; exact he
      rcases Bool.eq_false_or_eq_true d with hd | hd
      all_goals
        subst hd
        go_wp2_with (go_at_call 20; refine (HC.out _).mono ?_; rintro e w1' ⟨rfl, rfl⟩)
        go_ret
        exact ⟨by rw [HRD.out]; first | rfl | simp [he2], rfl⟩

set_option maxHeartbeats 4000000 in
theorem queryName_any (T : ByteArray) (n : Nat) (r : Bool) (w : World) (hn : T.size = n) (hm : n ≤ 9223372036854775807) (hr : r = qname T) : Calls Tryz.prog 47 #[.string T] w fun e w' => e = .returned (.bool r) ∧ Hid (Below w.heap.size w w') := by
  have HN : Hid (T.size = n) := hn
  have HR : Hid (r = (letTo T n && (decide (1 ≤ n) && decide (n ≤ 4)) && !(T.toList == eachT.toList))) := by show _ = _; rw [hr]; unfold qname; rw [hn]
  have hsz : (T.size : Int) = (n : Int) := by rw [hn]
  clear hr
  by_cases h1 : n < 1
  · have h1' : (n : Int) < 1 := by omega
    have hf : r = false := by rw [HR.out]; simp; omega
    subst hf
    clear hn
    go_enter Tryz.func47, Tryz.ntmps47
    go_wp2
    go_ret
    exact ⟨rfl, Below.refl _ _⟩
  · have h1' : ¬ (n : Int) < 1 := by omega
    by_cases h4 : 4 < n
    · have h4' : (n : Int) > 4 := by omega
      have hf : r = false := by rw [HR.out]; simp; omega
      subst hf
      clear hn
      go_enter Tryz.func47, Tryz.ntmps47
      go_wp2
      go_ret
      exact ⟨rfl, Below.refl _ _⟩
    · have h4' : ¬ (n : Int) > 4 := by omega
      rcases Bool.eq_false_or_eq_true (T.toList == eachT.toList) with he | he
      · have hf : r = false := by rw [HR.out, he]; simp
        have he2 : (T.toList == [101, 97, 99, 104]) = true := by rw [← eachT_list]; exact he
        subst hf
        clear hn
        go_enter Tryz.func47, Tryz.ntmps47
        go_wp2
        go_ret
        exact ⟨rfl, Below.refl _ _⟩
      · have he2 : (T.toList == [101, 97, 99, 104]) = false := by rw [← eachT_list]; exact he
        have HR2 : Hid (r = letTo T n) := by show _ = _; rw [HR.out, he]; simp; omega
        subst hn
        clear hsz
        go_enter Tryz.func47, Tryz.ntmps47
        go_wp2
        go_loopw [4] (fun _ w' => ∃ pos, pos ≤ T.size ∧ w' = w.iter T pos ∧ Hid (letTo T pos = true)) (fun _ w' => T.size - w'.iterPos w.heap.size)
        case atStart => exact ⟨0, by omega, rfl, rfl⟩
        case round =>
          obtain ⟨pos, hp, rfl, HE⟩ := hrel
          by_cases hlt : pos < T.size
          · have HB : Hid ((T[pos]'hlt).toNat = btq T pos) := by show _ = _; rw [btq_lt hlt]
            by_cases ha : (T[pos]'hlt).toNat < 128
            · have hnx := fun ty => run_next_ascii (P := Tryz.prog) w T pos ty hlt ha
              obtain ⟨b, HBB⟩ : ∃ b : Nat, Hid (b = (T[pos]'hlt).toNat) := ⟨_, rfl⟩
              rw [← HBB.out] at hnx
              obtain ⟨q, HQ⟩ : ∃ q : Bool, Hid (q = (decide (97 ≤ (b : Int)) && decide ((b : Int) ≤ 122))) := ⟨_, rfl⟩
              have HQL : Hid (q = isLet (btq T pos)) := by show _ = _; rw [HQ.out, ← HB.out, ← HBB.out]; unfold isLet; rw [show decide (97 ≤ (b : Int)) = decide (97 ≤ b) from decide_eq_decide.2 (by omega), show decide ((b : Int) ≤ 122) = decide (b ≤ 122) from decide_eq_decide.2 (by omega)]
              have HS : Hid (q = true → letTo T (pos + 1) = true) := fun h => by rw [letTo_succ, HE.out, ← HQL.out, h]; rfl
              have HF : Hid (q = false → r = false) := fun h => by rw [HR2.out]; exact letTo_no hlt (by rw [← HQL.out]; exact h)
              clear ha
              rcases Bool.eq_false_or_eq_true q with hq | hq
              · subst hq
                go_wp2_with (go_at_call 63; refine (isLetter_any (b : Int) true _ HQ.out).mono ?_; rintro e w1 ⟨rfl, rfl⟩)
                go_roundw
                case rel => exact ⟨pos + 1, by omega, rfl, HS.out (by simp)⟩
                case measure => simp; omega
              · subst hq
                go_wp2_with (go_at_call 63; refine (isLetter_any (b : Int) false _ HQ.out).mono ?_; rintro e w1 ⟨rfl, rfl⟩)
                go_ret
                exact ⟨by rw [HF.out (by simp)]; rfl, (Below.refl _ _).alloc (Nat.le_refl _) _⟩
            · have hnx := fun ty => run_next_any (P := Tryz.prog) w T pos ty hlt
              have hhi := decode_high T pos hlt (by omega)
              obtain ⟨b, HBB⟩ : ∃ b : Nat, Hid (b = (Utf8.decode T pos).1) := ⟨_, rfl⟩
              obtain ⟨p2, HP2⟩ : ∃ b : Nat, Hid (b = pos + (Utf8.decode T pos).2) := ⟨_, rfl⟩
              rw [← HBB.out, ← HP2.out] at hnx
              have hf : r = false := by rw [HR2.out]; exact letTo_no hlt (by rw [← HB.out]; unfold isLet; simp; omega)
              have HQ : Hid (false = (decide (97 ≤ (b : Int)) && decide ((b : Int) ≤ 122))) := by show _ = _; have := hhi.1; rw [← HBB.out] at this; simp; omega
              subst hf
              clear ha hhi
              go_wp2_with (go_at_call 63; refine (isLetter_any (b : Int) false _ HQ.out).mono ?_; rintro e w1 ⟨rfl, rfl⟩)
              go_ret
              exact ⟨rfl, (Below.refl _ _).alloc (Nat.le_refl _) _⟩
          · have hnx := fun ty => run_next_end (P := Tryz.prog) w T pos ty hlt
            obtain rfl : pos = T.size := by omega
            have hf : r = true := by rw [HR2.out, HE.out]
            subst hf
            go_wp2
            go_ret
            exact ⟨rfl, (Below.refl _ _).alloc (Nat.le_refl _) _⟩

end Go.Proofs.YtbepmeipjdpipaaGreat

namespace Go.Proofs.YtbepmeipjdpipaaGreat
open Go.RowKit

theorem orI_lt {a b : Int} : orI a b < 0 ↔ (a < 0 ∨ (a = 0 ∧ b < 0)) := by unfold orI; split <;> omega
theorem cmpI_lt {a b : Int} : cmpI a b < 0 ↔ a < b := by unfold cmpI; split <;> (try split) <;> omega
theorem cmpI_eq {a b : Int} : cmpI a b = 0 ↔ a = b := by unfold cmpI; split <;> (try split) <;> omega
theorem ltE_iff {x y : Ed} : ltE x y = true ↔ (x.1 < y.1 ∨ (x.1 = y.1 ∧ (x.2.1 < y.2.1 ∨ (x.2.1 = y.2.1 ∧ x.2.2 < y.2.2)))) := by
  unfold ltE cmpE
  rw [decide_eq_true_eq, orI_lt, orI_lt, cmpI_lt, cmpI_lt, cmpI_lt, cmpI_eq, cmpI_eq]
theorem ltE_irrefl (x : Ed) : ltE x x = false := by
  rcases h : ltE x x with _ | _
  · rfl
  · rw [ltE_iff] at h; omega
theorem ltE_trans {x y z : Ed} (h : ltE x y = true) (h' : ltE y z = true) : ltE x z = true := by rw [ltE_iff] at *; omega
theorem ltE_asymm {x y : Ed} (h : ltE x y = true) : ltE y x = false := by
  rcases h' : ltE y x with _ | _
  · rfl
  · rw [ltE_iff] at h h'; omega
theorem ed_ext {x y : Ed} (h0 : x.1 = y.1) (h1 : x.2.1 = y.2.1) (h2 : x.2.2 = y.2.2) : x = y := Prod.ext h0 (Prod.ext h1 h2)
theorem ltE_total {x y : Ed} (h : x ≠ y) (h1 : ltE x y = false) : ltE y x = true := by
  rw [ltE_iff]
  have h2 : ¬ ltE x y = true := by rw [h1]; simp
  rw [ltE_iff] at h2
  by_cases e : x.1 = y.1 ∧ x.2.1 = y.2.1 ∧ x.2.2 = y.2.2
  · exact absurd (ed_ext e.1 e.2.1 e.2.2) h
  · omega
theorem ltE_or (x y : Ed) : ltE x y = true ∨ x = y ∨ ltE y x = true := by
  by_cases e : x = y
  · exact .inr (.inl e)
  · rcases h : ltE x y with _ | _
    · exact .inr (.inr (ltE_total e h))
    · exact .inl rfl

def SrtE (l : List Ed) : Prop := l.Pairwise fun x y => ltE x y = true
theorem srtE_ext : ∀ {l l' : List Ed}, SrtE l → SrtE l' → (∀ x, x ∈ l ↔ x ∈ l') → l = l'
  | [], [], _, _, _ => rfl
  | [], y :: ys, _, _, h => absurd ((h y).2 (by simp)) (by simp)
  | x :: xs, [], _, _, h => absurd ((h x).1 (by simp)) (by simp)
  | x :: xs, y :: ys, h1, h2, h => by
    have a1 := List.pairwise_cons.1 h1
    have a2 := List.pairwise_cons.1 h2
    have e : x = y := by
      have hx := (h x).1 (by simp)
      have hy := (h y).2 (by simp)
      rcases List.mem_cons.1 hx with e | e
      · exact e
      · rcases List.mem_cons.1 hy with e' | e'
        · exact e'.symm
        · have := a2.1 x e
          rw [ltE_asymm (a1.1 y e')] at this; cases this
    subst e
    congr 1
    refine srtE_ext a1.2 a2.2 fun z => ⟨fun hz => ?_, fun hz => ?_⟩
    · rcases List.mem_cons.1 ((h z).1 (List.mem_cons_of_mem _ hz)) with e | e
      · subst e; have := a1.1 z hz; rw [ltE_irrefl] at this; cases this
      · exact e
    · rcases List.mem_cons.1 ((h z).2 (List.mem_cons_of_mem _ hz)) with e | e
      · subst e; have := a2.1 z hz; rw [ltE_irrefl] at this; cases this
      · exact e
theorem SrtE.nodup {l : List Ed} (h : SrtE l) : l.Nodup := List.Pairwise.imp (fun {x y} (hxy : ltE x y = true) (e : x = y) => by subst e; rw [ltE_irrefl] at hxy; cases hxy) h
theorem srtE_of {l : List Ed} (h : l.Nodup) (h2 : l.Pairwise fun x y => ltE y x = false) : SrtE l := by
  have := h.and h2
  exact this.imp fun {x y} ⟨hne, hl⟩ => ltE_total (fun e => hne e.symm) hl

def putE (l : List Ed) (e : Ed) : List Ed := l.filter (fun x => ltE x e) ++ e :: l.filter (fun x => ltE e x)
theorem mem_putE {l : List Ed} {e x : Ed} : x ∈ putE l e ↔ x = e ∨ x ∈ l := by
  unfold putE
  simp only [List.mem_append, List.mem_cons, List.mem_filter]
  constructor
  · rintro (h | h | h)
    · exact .inr h.1
    · exact .inl h
    · exact .inr h.1
  · rintro (h | h)
    · exact .inr (.inl h)
    · rcases ltE_or x e with h1 | h1 | h1
      · exact .inl ⟨h, h1⟩
      · exact .inr (.inl h1)
      · exact .inr (.inr ⟨h, h1⟩)
theorem srt_putE {l : List Ed} (h : SrtE l) (e : Ed) : SrtE (putE l e) := by
  unfold putE SrtE
  rw [List.pairwise_append]
  refine ⟨List.Pairwise.filter _ h, ?_, ?_⟩
  · rw [List.pairwise_cons]
    exact ⟨fun x hx => (List.mem_filter.1 hx).2, List.Pairwise.filter _ h⟩
  · intro x hx y hy
    have h1 := (List.mem_filter.1 hx).2
    rcases List.mem_cons.1 hy with rfl | hy
    · exact h1
    · exact ltE_trans h1 (List.mem_filter.1 hy).2
theorem putE_len (l : List Ed) (e : Ed) : (putE l e).length ≤ l.length + 1 := by
  unfold putE
  have h1 : (l.filter (fun x => ltE x e)).length + (l.filter (fun x => ltE e x)).length ≤ l.length := by
    induction l with
    | nil => simp
    | cons x xs ih =>
      rcases h : ltE x e with _ | _
      · simp only [List.filter_cons, h]
        rcases h2 : ltE e x with _ | _ <;> simp <;> omega
      · simp only [List.filter_cons, h, ltE_asymm h]
        simp; omega
  simp; omega

def turnE (x : Ed) : Ed := (x.2.2, x.2.1, x.1)
def turnL (l : List Ed) : List Ed := l.foldl (fun acc x => putE acc (turnE x)) []
def okGAt (s : Int) (l : List Ed) (i : Nat) : Bool := okE s (eat l i) && (decide (i = 0) || ltE (eat l (i - 1)) (eat l i))
def okGTo (s : Int) (l : List Ed) : Nat → Bool
  | 0 => true
  | k + 1 => okGTo s l k && okGAt s l k
def okG (s : Int) (l : List Ed) : Bool := decide (1 ≤ s) && decide (s ≤ 12) && decide (l.length ≤ 40) && okGTo s l l.length
theorem okGTo_false {s : Int} {l : List Ed} {k n : Nat} (h : k < n) (hk : okGAt s l k = false) : okGTo s l n = false := by
  induction n with
  | zero => omega
  | succ n ih =>
    simp only [okGTo]
    rcases Nat.lt_or_ge k n with h1 | h1
    · rw [ih h1]; rfl
    · obtain rfl : k = n := by omega
      rw [hk]; simp
theorem okGTo_at {s : Int} {l : List Ed} {k n : Nat} (h : okGTo s l n = true) (hk : k < n) : okGAt s l k = true := by
  rcases hv : okGAt s l k with _ | _
  · rw [okGTo_false hk hv] at h; cases h
  · rfl
theorem okGTo_all {s : Int} {l : List Ed} {n : Nat} (h : ∀ k, k < n → okGAt s l k = true) : okGTo s l n = true := by
  induction n with
  | zero => rfl
  | succ n ih => simp only [okGTo]; rw [ih (fun k hk => h k (by omega)), h n (by omega)]; rfl
theorem okGAt_zero {s : Int} {l : List Ed} (h : okE s (eat l 0) = true) : okGAt s l 0 = true := by unfold okGAt; rw [h]; rfl
theorem okGAt_pos {s : Int} {l : List Ed} {i : Nat} (h : okE s (eat l i) = true) (hi : i ≠ 0) : okGAt s l i = ltE (eat l (i - 1)) (eat l i) := by unfold okGAt; rw [h]; simp [hi]
def gaddOk (s : Int) (l : List Ed) (e : Ed) : Bool := okG s l && okG s (putE l e)
def gaddL (s : Int) (l : List Ed) (e : Ed) : List Ed := if gaddOk s l e = true then putE l e else l
def gturn (s : Int) (l : List Ed) : List Ed := if okG s l = true then turnL l else l
end Go.Proofs.YtbepmeipjdpipaaGreat

namespace Go.Proofs.YtbepmeipjdpipaaGreat
open Go.RowKit

abbrev gv (s : Int) (a : Option Addr) (n cap : Nat) : Value := .agg #[.int .i64 s, .slice a n cap]

def marksE (K n : Nat) : List Ed := (List.range n).map fun i => (((K + i * 3 : Nat) : Int), ((K + i * 3 + 1 : Nat) : Int) % 256, ((K + i * 3 + 2 : Nat) : Int))
end Go.Proofs.YtbepmeipjdpipaaGreat

namespace Go.Proofs.YtbepmeipjdpipaaGreat
open Go.RowKit

structure Hold (w wi : World) (bx : List (Nat × List Value)) : Prop where
  bel : Below w.heap.size w wi
  box : ∀ p ∈ bx, Blk wi p.1 p.2.length (fun i => p.2.getD i (.int .i64 0))
theorem Hold.below {w wi wj : World} {bx : List (Nat × List Value)} (h : Hold w wi bx) (hb : Below wi.heap.size wi wj) : Hold w wj bx :=
  ⟨h.bel.trans (hb.mono h.bel.size), fun p hp => (h.box p hp).of_block (hb.block _ (h.box p hp).lt)⟩
theorem Hold.kept {w wi wj : World} {bx : List (Nat × List Value)} {p : Nat → Prop} (h : Hold w wi bx) (hk : KeptP p wi wj) (h1 : ∀ x ∈ bx, ¬ p x.1) (h2 : ∀ k, p k → w.heap.size ≤ k) : Hold w wj bx :=
  ⟨h.bel.trans (hk.to_below h.bel.size h2), fun x hx => hk.blk (h.box x hx) (h1 x hx)⟩
theorem blk_list (w : World) (b : Nat) (hb : b = w.heap.size) (vs : List Value) (T : TypeId) : Blk (w.alloc (.cells vs.toArray T)) b vs.length (fun i => vs.getD i (.int .i64 0)) :=
  hb ▸ blk_new w vs.toArray T _ (fun i hi => by
    have hi' : i < vs.length := by simpa using hi
    simp [List.getD, hi'])
theorem Hold.more {w wi : World} {bx : List (Nat × List Value)} (h : Hold w wi bx) (vs : List Value) (T : TypeId) : Hold w (wi.alloc (.cells vs.toArray T)) ((wi.heap.size, vs) :: bx) :=
  ⟨h.bel.alloc h.bel.size _, fun p hp => by
    rcases List.mem_cons.1 hp with rfl | hp
    · exact blk_list wi _ rfl vs T
    · exact (h.box p hp).alloc _⟩
theorem Hold.cell {w wi : World} {bx : List (Nat × List Value)} (h : Hold w wi bx) {b : Nat} {vs : List Value} {i : Nat} (hm : (b, vs) ∈ bx) (hi : i < vs.length) : wi.cell? ⟨b, i, none⟩ = some (vs.getD i (.int .i64 0)) := (h.box _ hm).cell (i := i) hi
theorem Hold.frozen {w wi : World} {bx : List (Nat × List Value)} (h : Hold w wi bx) {b : Nat} {vs : List Value} (i : Nat) (hm : (b, vs) ∈ bx) : wi.frozen? ⟨b, i, none⟩ = false := (h.box _ hm).frozen i
theorem Hold.lt {w wi : World} {bx : List (Nat × List Value)} (h : Hold w wi bx) {b : Nat} {vs : List Value} (hm : (b, vs) ∈ bx) : b < wi.heap.size := (h.box _ hm).lt
theorem Hold.none (w : World) : Hold w w [] := ⟨Below.refl _ _, fun p hp => by simp at hp⟩
theorem Hold.drew {w wi : World} {bx : List (Nat × List Value)} (h : Hold w wi bx) : Hold w wi.drew bx := h.below ((Below.refl _ _).drew)
theorem Hold.put {w wi : World} {bx : List (Nat × List Value)} {b j : Nat} {vs : List Value} (h : Hold w wi ((b, vs) :: bx)) (hj : j < vs.length) (v : Value) (hb : w.heap.size ≤ b) (hn : ∀ p ∈ bx, p.1 ≠ b) : Hold w (wi.setCell ⟨b, j, Option.none⟩ v) ((b, vs.set j v) :: bx) :=
  ⟨h.bel.setCell hb v, fun p hp => by
    rcases List.mem_cons.1 hp with rfl | hp
    · have h1 := (h.box (b, vs) (by simp)).set j hj v
      show Blk _ b (vs.set j v).length _
      rw [List.length_set]
      refine h1.congr fun i hi => ?_
      by_cases e : i = j
      · subst e; simp [List.getD, show i < vs.length from hj]
      · simp [List.getD, e, List.getElem?_set_ne (Ne.symm e)]
    · exact (h.box p (List.mem_cons_of_mem _ hp)).of_block (Below.heap_setCell _ _ _ _ (hn p hp))⟩
end Go.Proofs.YtbepmeipjdpipaaGreat

namespace Go.Proofs.YtbepmeipjdpipaaGreat
open Go.RowKit

section
variable {P : Program}
theorem run_append_none (w : World) (base : Nat) (t ty e : TypeId) (i : TypeInfo) (size : Nat) (ht : P.underlying t = some (.slice e)) (hi : P.info? e = some i) (v : Value) (n c : Nat) (xs : List Value) (hown : w.ownsRow base e size v n xs) :
    (Builtin.append_ #[t, t] ty #[v, .slice none 0 c]).run P w = .ok v w := by
  rcases hown.2 with ⟨rfl, rfl⟩ | ⟨g, cap, cur, rfl, _, _, hnc, _⟩
  · simp [Builtin.append_, run_underlying ht, Go.sizeOf, typeInfo, hi, Builtin.lenOf, Builtin.firstCells]
  · simp [Builtin.append_, run_underlying ht, Go.sizeOf, typeInfo, hi, Builtin.lenOf, Builtin.firstCells, hnc, storeCells]

theorem wp_append_row (w : World) {o : Oper} {a : Act} {K : Act → World → Prop} {Q : Exit → Act → World → Prop} (s x : Operand) (t : TypeId)
    (ho : o.op = .call { callee := .builtin .append, args := #[s, x], argTypes := #[t, t] })
    (base : Nat) (e : TypeId) (i : TypeInfo) (z : Value) (size bytes : Nat) (ht : P.underlying t = some (.slice e)) (hi : P.info? e = some i) (hz : i.zero = some z)
    (hsize : i.size = size) (hby : i.bytes = bytes) (hzs : z.cells.size = size) (hsz : 0 < size)
    (v : Value) (n : Nat) (xs : List Value) (hs : a.eval s = v) (hown : w.ownsRow base e size v n xs)
    (ao : Option Addr) (m c : Nat) (news : List Value) (hx : a.eval x = .slice ao m c) (h0 : ao = none → m = 0) (hl : news.length = m * size) (hnews : ∀ ad, ao = some ad → ∀ j u, news[j]? = some u → w.cell? (ad.add j) = some u) (h1 : ∀ u ∈ news, u.oneCell' = true)
    (h63 : n + m ≤ maxLen) (hbytes : (n + m) * bytes ≤ 140737488355328) (hbase : base ≤ w.heap.size)
    (h : ∀ v' w', w'.ownsRow base e size v' (n + m) (xs ++ news) → w.grownBy w' v.ownBlock → K (a.put o.dst v') w') : o.wp P a w K Q := by
  cases ao with
  | some ad => exact wp_append_own w s x t ho base e i z size bytes ht hi hz hsize hby hzs hsz v n xs hs hown ad m c news hx hl (hnews ad rfl) h1 h63 hbytes hbase (fun v' w' h2 h3 _ => h v' w' h2 h3)
  | none =>
    obtain rfl := h0 rfl
    have hnil : news = [] := List.length_eq_zero_iff.1 (by simpa using hl)
    subst hnil
    have hr := run_append_none (P := P) w base t o.type e i size ht hi v n c xs hown
    unfold Oper.wp execOp
    simp only [ho, resolve, invoke, builtin, Sem.run_bind, Sem.run_pure, Result.andThen_ok, List.map_toArray, List.map_cons, List.map_nil, hs, hx, hr]
    exact h v w (by simpa using hown) ⟨rfl, rfl, rfl, Nat.le_refl _, fun _ _ _ => rfl⟩

theorem wpList_append_row (w : World) {ops : Array Oper} {rest : List Oper} {o : Oper} {a : Act} {Q : Exit → Act → World → Prop} (hgd : o.guard = none) (s x : Operand) (t : TypeId)
    (ho : o.op = .call { callee := .builtin .append, args := #[s, x], argTypes := #[t, t] })
    (base : Nat) (e : TypeId) (i : TypeInfo) (z : Value) (size bytes : Nat) (ht : P.underlying t = some (.slice e)) (hi : P.info? e = some i) (hz : i.zero = some z)
    (hsize : i.size = size) (hby : i.bytes = bytes) (hzs : z.cells.size = size) (hsz : 0 < size)
    (v : Value) (n : Nat) (xs : List Value) (hs : a.eval s = v) (hown : w.ownsRow base e size v n xs)
    (ao : Option Addr) (m c : Nat) (news : List Value) (hx : a.eval x = .slice ao m c) (h0 : ao = none → m = 0) (hl : news.length = m * size) (hnews : ∀ ad, ao = some ad → ∀ j u, news[j]? = some u → w.cell? (ad.add j) = some u) (h1 : ∀ u ∈ news, u.oneCell' = true)
    (h63 : n + m ≤ maxLen) (hbytes : (n + m) * bytes ≤ 140737488355328) (hbase : base ≤ w.heap.size)
    (h : ∀ v' w', w'.ownsRow base e size v' (n + m) (xs ++ news) → w.grownBy w' v.ownBlock → wpList P ops Q rest (a.put o.dst v') w') : wpList P ops Q (o :: rest) a w :=
  wpList_plain hgd fun _ hK => wp_append_row w s x t ho base e i z size bytes ht hi hz hsize hby hzs hsz v n xs hs hown ao m c news hx h0 hl hnews h1 h63 hbytes hbase fun v' w' h2 h3 => hK _ _ (h v' w' h2 h3)

end

def rowCells (l : List Int) : List Value := l.map (Value.int .i64)
theorem rowCells_len (l : List Int) : (rowCells l).length = l.length * 1 := by simp [rowCells]
theorem rowCells_one (l : List Int) : ∀ u ∈ rowCells l, u.oneCell' = true := by intro u hu; obtain ⟨x, _, rfl⟩ := List.mem_map.1 hu; rfl
theorem rowOwn_of {B n : Nat} {w : World} {v : Value} {l : List Int} (h : w.ownsRow B 3 1 v n (rowCells l)) (hn : l.length = n) : ∃ a cap, v = .slice a n cap ∧ RowOwn B w.heap.size w a l := by
  rcases h.2 with ⟨rfl, rfl⟩ | ⟨g, cap, cur, rfl, hg, hb, _⟩
  · exact ⟨none, 0, rfl, .inl (List.length_eq_zero_iff.1 hn)⟩
  · refine ⟨_, cap, rfl, .inr ⟨g, rfl, hg, (Array.getElem?_eq_some_iff.1 hb).1, ?_⟩⟩
    have := blk_own h
    rw [Nat.mul_one, ← hn] at this
    exact this.congr fun i hi => by simp [rowCells, List.getD, hi]

end Go.Proofs.YtbepmeipjdpipaaGreat

namespace Go.Proofs.YtbepmeipjdpipaaGreat
open Go.RowKit

abbrev Pc := Int × Int × List Int
def pat (l : List Pc) (i : Nat) : Pc := l.getD i (0, 0, [])
theorem pat_get {l : List Pc} {i : Nat} (h : i < l.length) : pat l i = l[i] := by simp [pat, List.getD, h]
abbrev pv (a : Option Addr) (n cap : Nat) : Value := .agg #[.slice a n cap]
def PieceAt (lo hi : Nat) (w : World) (b o : Nat) (x : Pc) : Prop :=
  w.cell? ⟨b, o, none⟩ = some (.int .i64 x.1) ∧ w.cell? ⟨b, o + 1, none⟩ = some (.int .u8 x.2.1) ∧ ∃ ra rc, w.cell? ⟨b, o + 2, none⟩ = some (.slice ra x.2.2.length rc) ∧ RowIn lo hi w ra x.2.2
def PathIn (lo hi : Nat) (w : World) (a : Option Addr) (l : List Pc) : Prop :=
  l = [] ∨ ∃ b o, a = some ⟨b, o, none⟩ ∧ lo ≤ b ∧ b < hi ∧ ∀ i, i < l.length → PieceAt lo hi w b (o + i * 3) (pat l i)

theorem PieceAt.below {lo hi B : Nat} {w w' : World} {b o : Nat} {x : Pc} (h : PieceAt lo hi w b o x) (hb : Below B w w') (hB : hi ≤ B) (hl : b < B) : PieceAt lo hi w' b o x := by
  obtain ⟨h1, h2, ra, rc, h3, h4⟩ := h
  exact ⟨cell_below h1 hb hl, cell_below h2 hb hl, ra, rc, cell_below h3 hb hl, h4.below hb hB⟩
theorem PathIn.below {lo hi B : Nat} {w w' : World} {a : Option Addr} {l : List Pc} (h : PathIn lo hi w a l) (hb : Below B w w') (hB : hi ≤ B) : PathIn lo hi w' a l := by
  rcases h with h | ⟨b, o, e, h1, h2, h3⟩
  · exact .inl h
  · exact .inr ⟨b, o, e, h1, h2, fun i hi => (h3 i hi).below hb hB (by omega)⟩
theorem PathIn.wide {lo hi lo' hi' : Nat} {w : World} {a : Option Addr} {l : List Pc} (h : PathIn lo hi w a l) (h1 : lo' ≤ lo) (h2 : hi ≤ hi') : PathIn lo' hi' w a l := by
  rcases h with h | ⟨b, o, e, h3, h4, h5⟩
  · exact .inl h
  · refine .inr ⟨b, o, e, by omega, by omega, fun i hi => ?_⟩
    obtain ⟨g1, g2, ra, rc, g3, g4⟩ := h5 i hi
    exact ⟨g1, g2, ra, rc, g3, g4.wide h1 h2⟩
theorem PathIn.kept {lo hi : Nat} {p : Nat → Prop} {w w' : World} {a : Option Addr} {l : List Pc} (h : PathIn lo hi w a l) (hk : KeptP p w w') (hh : hi ≤ w.heap.size) (hp : ∀ k, lo ≤ k → k < hi → ¬ p k) : PathIn lo hi w' a l := by
  rcases h with h | ⟨b, o, e, h1, h2, h3⟩
  · exact .inl h
  · refine .inr ⟨b, o, e, h1, h2, fun i hi => ?_⟩
    obtain ⟨g1, g2, ra, rc, g3, g4⟩ := h3 i hi
    exact ⟨hk.cell g1 (by omega) (hp b h1 h2), hk.cell g2 (by omega) (hp b h1 h2), ra, rc, hk.cell g3 (by omega) (hp b h1 h2), g4.kept hk hh hp⟩
theorem PathIn.piece {lo hi : Nat} {w : World} {a : Option Addr} {l : List Pc} (h : PathIn lo hi w a l) {k : Nat} (hk : k < l.length) : ∃ b o, a = some ⟨b, o, none⟩ ∧ lo ≤ b ∧ b < hi ∧ PieceAt lo hi w b (o + k * 3) (pat l k) := by
  rcases h with rfl | ⟨b, o, e, h1, h2, h3⟩
  · simp at hk
  · exact ⟨b, o, e, h1, h2, h3 k hk⟩

def kidsLen (l : List Pc) : Nat → Nat
  | 0 => 0
  | k + 1 => kidsLen l k + (pat l k).2.2.length
theorem RowOwn.setCellP {lo hi b j : Nat} {w : World} {a : Option Addr} {l : List Int} (h : RowOwn lo hi w a l) (hb : b < lo) (v : Value) : RowOwn lo hi (w.setCell ⟨b, j, none⟩ v) a l := by
  rcases h with h | ⟨g, e, h1, h2, h3⟩
  · exact .inl h
  · exact .inr ⟨g, e, h1, h2, h3.of_block (Below.heap_setCell w ⟨b, j, none⟩ v g (by simp; omega))⟩

end Go.Proofs.YtbepmeipjdpipaaGreat

namespace Go.Proofs.YtbepmeipjdpipaaGreat
open Go.RowKit

def PartPc (lo hi : Nat) (w : World) (b : Nat) (l : List Pc) (n k : Nat) : Prop :=
  ∃ (f : Nat → Value) (R : Nat → Option Addr) (C : Nat → Nat), Blk w b (n * 3) f ∧ ∀ i, i < k → f (i * 3) = .int .i64 (pat l i).1 ∧ f (i * 3 + 1) = .int .u8 (pat l i).2.1 ∧ f (i * 3 + 2) = .slice (R i) (pat l i).2.2.length (C i) ∧ RowOwn lo hi w (R i) (pat l i).2.2 ∧
    ((pat l i).2.2 ≠ [] → (∀ c, R i = some ⟨c, 0, none⟩ → c ≠ b) ∧ ∀ j, j < i → (pat l j).2.2 ≠ [] → R j ≠ R i)
def PathOwn (lo hi : Nat) (w : World) (a : Option Addr) (l : List Pc) : Prop :=
  l = [] ∨ ∃ b, a = some ⟨b, 0, none⟩ ∧ lo ≤ b ∧ b < hi ∧ PartPc lo hi w b l l.length l.length

theorem PathOwn.toIn {lo hi : Nat} {w : World} {a : Option Addr} {l : List Pc} (h : PathOwn lo hi w a l) : PathIn lo hi w a l := by
  rcases h with h | ⟨b, e, h1, h2, f, R, C, hB, hp⟩
  · exact .inl h
  · refine .inr ⟨b, 0, e, h1, h2, fun i hi => ?_⟩
    obtain ⟨e1, e2, e3, e4, _⟩ := hp i hi
    refine ⟨?_, ?_, R i, C i, ?_, e4.toIn⟩
    · rw [Nat.zero_add, hB.cell (by omega), e1]
    · rw [Nat.zero_add, hB.cell (by omega), e2]
    · rw [Nat.zero_add, hB.cell (by omega), e3]
theorem PartPc.of_blocks {lo hi b : Nat} {w w' : World} {l : List Pc} {n k : Nat} (h : PartPc lo hi w b l n k) (h1 : w'.heap[b]? = w.heap[b]?) (h2 : ∀ c, lo ≤ c → c < hi → w'.heap[c]? = w.heap[c]?) : PartPc lo hi w' b l n k := by
  obtain ⟨f, R, C, h3, h4⟩ := h
  refine ⟨f, R, C, h3.of_block h1, fun i hi => ?_⟩
  obtain ⟨e0, e1, e2, e3, e4⟩ := h4 i hi
  refine ⟨e0, e1, e2, ?_, e4⟩
  rcases e3 with h | ⟨c, ec, h5, h6, h7⟩
  · exact .inl h
  · exact .inr ⟨c, ec, h5, h6, h7.of_block (h2 c h5 h6)⟩
theorem PartPc.below {lo hi B b : Nat} {w w' : World} {l : List Pc} {n k : Nat} (h : PartPc lo hi w b l n k) (hb : Below B w w') (hB : hi ≤ B) (hl : b < B) : PartPc lo hi w' b l n k :=
  h.of_blocks (hb.block b hl) (fun c _ h2 => hb.block c (by omega))
theorem PathOwn.below {lo hi B : Nat} {w w' : World} {a : Option Addr} {l : List Pc} (h : PathOwn lo hi w a l) (hb : Below B w w') (hB : hi ≤ B) : PathOwn lo hi w' a l := by
  rcases h with h | ⟨b, e, h1, h2, h3⟩
  · exact .inl h
  · exact .inr ⟨b, e, h1, h2, h3.below hb hB (by omega)⟩
theorem PartPc.wide {lo hi lo' hi' b : Nat} {w : World} {l : List Pc} {n k : Nat} (h : PartPc lo hi w b l n k) (h1 : lo' ≤ lo) (h2 : hi ≤ hi') : PartPc lo' hi' w b l n k := by
  obtain ⟨f, R, C, h3, h4⟩ := h
  refine ⟨f, R, C, h3, fun i hi => ?_⟩
  obtain ⟨e0, e1, e2, e3, e4⟩ := h4 i hi
  exact ⟨e0, e1, e2, e3.wide h1 h2, e4⟩
theorem PathOwn.wide {lo hi lo' hi' : Nat} {w : World} {a : Option Addr} {l : List Pc} (h : PathOwn lo hi w a l) (h1 : lo' ≤ lo) (h2 : hi ≤ hi') : PathOwn lo' hi' w a l := by
  rcases h with h | ⟨b, e, h3, h4, h5⟩
  · exact .inl h
  · exact .inr ⟨b, e, by omega, by omega, h5.wide h1 h2⟩
theorem PathOwn.kept {lo hi : Nat} {p : Nat → Prop} {w w' : World} {a : Option Addr} {l : List Pc} (h : PathOwn lo hi w a l) (hk : KeptP p w w') (hh : hi ≤ w.heap.size) (hp : ∀ c, lo ≤ c → c < hi → ¬ p c) : PathOwn lo hi w' a l := by
  rcases h with h | ⟨b, e, h1, h2, h3⟩
  · exact .inl h
  · exact .inr ⟨b, e, h1, h2, h3.of_blocks (hk.block b (by omega) (hp b h1 h2)) (fun c h4 h5 => hk.block c (by omega) (hp c h4 h5))⟩
theorem PathOwn.setCell {lo hi b j : Nat} {w : World} {a : Option Addr} {l : List Pc} (h : PathOwn lo hi w a l) (hb : b < lo) (v : Value) : PathOwn lo hi (w.setCell ⟨b, j, none⟩ v) a l := by
  rcases h with h | ⟨g, e, h1, h2, h3⟩
  · exact .inl h
  · exact .inr ⟨g, e, h1, h2, h3.of_blocks (Below.heap_setCell w ⟨b, j, none⟩ v g (by simp; omega)) (fun c h4 _ => Below.heap_setCell w ⟨b, j, none⟩ v c (by simp; omega))⟩

abbrev putPc (w : World) (b k : Nat) (x y : Value) (z : Value) : World := ((w.setCell ⟨b, k * 3, none⟩ x).setCell ⟨b, k * 3 + 1, none⟩ y).setCell ⟨b, k * 3 + 2, none⟩ z
theorem putPc_block (w : World) (b k c : Nat) (x y z : Value) (h : c ≠ b) : (putPc w b k x y z).heap[c]? = w.heap[c]? := by
  unfold putPc
  rw [Below.heap_setCell _ _ _ _ (by simpa using h), Below.heap_setCell _ _ _ _ (by simpa using h), Below.heap_setCell _ _ _ _ (by simpa using h)]
theorem PartPc.step {lo hi hi' b g cap : Nat} {w : World} {l : List Pc} {n k : Nat} (h : PartPc lo hi w b l n k) (hk : k < n) (hb : b < hi) (hr : RowOwn hi hi' w (some ⟨g, 0, none⟩) (pat l k).2.2) (hlo : lo ≤ hi) (hhi : hi ≤ hi') :
    PartPc lo hi' (putPc w b k (.int .i64 (pat l k).1) (.int .u8 (pat l k).2.1) (.slice (some ⟨g, 0, none⟩) (pat l k).2.2.length cap)) b l n (k + 1) := by
  obtain ⟨f, R, C, h1, h2⟩ := h
  have hgb : (pat l k).2.2 ≠ [] → hi ≤ g := by
    intro hne
    rcases hr with h | ⟨c, e, h3, _, _⟩
    · exact absurd h hne
    · simp at e; omega
  have keep : ∀ {x y : Nat} {a : Option Addr} {r : List Int}, RowOwn x y w a r → (r ≠ [] → a ≠ some ⟨b, 0, none⟩) → RowOwn x y (putPc w b k (.int .i64 (pat l k).1) (.int .u8 (pat l k).2.1) (.slice (some ⟨g, 0, none⟩) (pat l k).2.2.length cap)) a r := by
    intro x y a r hx hne
    by_cases h0 : r = []
    · exact .inl h0
    · rcases hx with h | ⟨c, e, h3, h4, h5⟩
      · exact absurd h h0
      · have hcb : c ≠ b := by intro e2; subst e2; exact hne h0 e
        exact .inr ⟨c, e, h3, h4, h5.of_block (putPc_block _ _ _ _ _ _ _ hcb)⟩
  refine ⟨_, fun i => if i = k then some ⟨g, 0, none⟩ else R i, fun i => if i = k then cap else C i, ((h1.set (k * 3) (by omega) _).set (k * 3 + 1) (by omega) _).set (k * 3 + 2) (by omega) _, fun i hi2 => ?_⟩
  by_cases e : i = k
  · subst e
    refine ⟨by simp, by simp, by simp, ?_, ?_⟩
    · simp only [if_true]
      exact keep (hr.wide hlo (Nat.le_refl _)) (fun hne e => by have := hgb hne; simp at e <;> omega)
    · intro hne
      have hge := hgb hne
      refine ⟨fun c hc => by simp at hc; omega, fun j hj hnj => ?_⟩
      have : ¬ j = i := by omega
      simp only [this, if_false, if_true]
      intro e3
      obtain ⟨_, _, _, e4, _⟩ := h2 j (by omega)
      rcases e4 with h | ⟨c, ec, _, hc, _⟩
      · exact hnj h
      · rw [e3] at ec; simp at ec <;> omega
  · obtain ⟨e0, e1, e2, e3, e4⟩ := h2 i (by omega)
    have n1 : ¬ i * 3 = k * 3 + 2 := by omega
    have n2 : ¬ i * 3 = k * 3 + 1 := by omega
    have n3 : ¬ i * 3 = k * 3 := by omega
    have n4 : ¬ i * 3 + 1 = k * 3 + 2 := by omega
    have n5 : ¬ i * 3 + 1 = k * 3 + 1 := by omega
    have n6 : ¬ i * 3 + 1 = k * 3 := by omega
    have n7 : ¬ i * 3 + 2 = k * 3 + 2 := by omega
    have n8 : ¬ i * 3 + 2 = k * 3 + 1 := by omega
    have n9 : ¬ i * 3 + 2 = k * 3 := by omega
    refine ⟨by simp only [n1, n2, n3, if_false]; exact e0, by simp only [n4, n5, n6, if_false]; exact e1, by simp only [n7, n8, n9, if_false, e]; exact e2, ?_, ?_⟩
    · simp only [e, if_false]
      exact (keep e3 (fun hne he => (e4 hne).1 b he rfl)).wide (Nat.le_refl _) hhi
    · intro hne
      simp only [e, if_false]
      refine ⟨(e4 hne).1, fun j hj hnj => ?_⟩
      have : ¬ j = k := by omega
      simp only [this, if_false]
      exact (e4 hne).2 j hj hnj

theorem Tryz.info127 : (Tryz.prog.info? 127).map (fun i => (i.zero, i.size, i.bytes)) = some (some (.agg #[.int .i64 0, .int .u8 0, .slice none 0 0]), 3, 40) := by kernel_rfl

end Go.Proofs.YtbepmeipjdpipaaGreat

namespace Go.Proofs.YtbepmeipjdpipaaGreat
open Go.RowKit

def posP (K : Nat) (l : List Pc) (i : Nat) : Nat := K + kidsLen l i + i * 2
def mkAtP (K : Nat) (l : List Pc) (i : Nat) : Pc := (((posP K l i : Nat) : Int), ((posP K l i + 1 : Nat) : Int) % 256, marks (posP K l i + 2) (pat l i).2.2.length)
def mkToP (K : Nat) (l : List Pc) (k : Nat) : List Pc := (List.range l.length).map fun i => if i < k then mkAtP K l i else pat l i
theorem PartPc.turned {lo hi b n k : Nat} {w w1 : World} {l l' : List Pc} {f : Nat → Value} {R : Nat → Option Addr} {C : Nat → Nat} {r' : List Int} {x' y' : Int}
    (h1 : Blk w b (n * 3) f)
    (h2 : ∀ i, i < n → f (i * 3) = .int .i64 (pat l i).1 ∧ f (i * 3 + 1) = .int .u8 (pat l i).2.1 ∧ f (i * 3 + 2) = .slice (R i) (pat l i).2.2.length (C i) ∧ RowOwn lo hi w (R i) (pat l i).2.2 ∧ ((pat l i).2.2 ≠ [] → (∀ c, R i = some ⟨c, 0, none⟩ → c ≠ b) ∧ ∀ j, j < i → (pat l j).2.2 ≠ [] → R j ≠ R i))
    (hk : k < n) (hK : KeptP (fun c => (pat l k).2.2 ≠ [] ∧ R k = some ⟨c, 0, none⟩) ((w.setCell ⟨b, k * 3, none⟩ (.int .i64 x')).setCell ⟨b, k * 3 + 1, none⟩ (.int .u8 y')) w1) (hr : RowOwn lo hi w1 (R k) r') (hl : r'.length = (pat l k).2.2.length)
    (e1 : pat l' k = (x', y', r')) (e2 : ∀ i, i < n → i ≠ k → pat l' i = pat l i) : PartPc lo hi w1 b l' n n := by
  have hrow : ∀ i, i < n → (pat l' i).2.2.length = (pat l i).2.2.length := by
    intro i hi
    by_cases e : i = k
    · subst e; rw [e1]; exact hl
    · rw [e2 i hi e]
  have hne : ∀ i, i < n → ((pat l' i).2.2 ≠ [] ↔ (pat l i).2.2 ≠ []) := fun i hi => ne_nil_len (hrow i hi)
  have hb0 := (h1.set (k * 3) (by omega) (.int .i64 x')).set (k * 3 + 1) (by omega) (.int .u8 y')
  have hb1 := hK.blk hb0 (fun ⟨h3, h4⟩ => ((h2 k hk).2.2.2.2 h3).1 b h4 rfl)
  refine ⟨_, R, C, hb1, fun i hin => ?_⟩
  obtain ⟨p0, p1, p2, p3, p4⟩ := h2 i hin
  have n1 : ¬ i * 3 = k * 3 + 1 := by omega
  have n2 : ¬ i * 3 + 1 = k * 3 := by omega
  have n3 : ¬ i * 3 + 2 = k * 3 + 1 := by omega
  have n4 : ¬ i * 3 + 2 = k * 3 := by omega
  refine ⟨?_, ?_, by simp only [n3, n4, if_false]; rw [p2, hrow i hin], ?_, ?_⟩
  · simp only [n1, if_false]
    by_cases e : i = k
    · subst e; rw [e1]; simp
    · have n5 : ¬ i * 3 = k * 3 := by omega
      simp only [n5, if_false]; rw [p0, e2 i hin e]
  · by_cases e : i = k
    · subst e; rw [e1]; simp
    · have n5 : ¬ i * 3 + 1 = k * 3 + 1 := by omega
      simp only [n5, n2, if_false]; rw [p1, e2 i hin e]
  · by_cases e : i = k
    · subst e; rw [e1]; exact hr
    · rw [e2 i hin e]
      by_cases hi0 : (pat l i).2.2 = []
      · exact .inl hi0
      · rcases p3 with h | ⟨c, ec, h5, h6, h7⟩
        · exact absurd h hi0
        · have hcb : c ≠ b := (p4 hi0).1 c ec
          have h8 := (h7.of_block (Below.heap_setCell w ⟨b, k * 3, none⟩ (.int .i64 x') c (by simpa using hcb))).of_block (Below.heap_setCell _ ⟨b, k * 3 + 1, none⟩ (.int .u8 y') c (by simpa using hcb))
          refine .inr ⟨c, ec, h5, h6, hK.blk h8 (fun ⟨h9, h10⟩ => ?_)⟩
          rcases Nat.lt_or_ge i k with h | h
          · exact ((h2 k hk).2.2.2.2 h9).2 i h hi0 (by rw [ec, h10])
          · exact (p4 hi0).2 k (by omega) h9 (by rw [ec, h10])
  · intro h3
    have h4 := p4 ((hne i hin).1 h3)
    exact ⟨h4.1, fun j hj hj0 => h4.2 j hj ((hne j (by omega)).1 hj0)⟩

end Go.Proofs.YtbepmeipjdpipaaGreat

namespace Go.Proofs.YtbepmeipjdpipaaGreat
open Go.RowKit

abbrev Rl := Nat → Nat → Bool
def noR : Rl := fun _ _ => false
def idR : Rl := fun i j => decide (i = j)
def orR (A B : Rl) : Rl := fun i j => A i j || B i j
def behR (n : Nat) (A B : Rl) : Rl := fun i j => (List.range n).any fun k => A i k && B k j
def itR (n : Nat) (K : Rl) : Nat → Rl
  | 0 => K
  | r + 1 => orR (itR n K r) (behR n (itR n K r) K)
def plusR (n : Nat) (K : Rl) : Rl := itR n K n
def starR (n : Nat) (K : Rl) : Rl := orR (plusR n K) idR

theorem orR_iff {A B : Rl} {i j : Nat} : orR A B i j = true ↔ A i j = true ∨ B i j = true := by simp [orR]
theorem idR_iff {i j : Nat} : idR i j = true ↔ i = j := by simp [idR]
theorem behR_iff {n : Nat} {A B : Rl} {i j : Nat} : behR n A B i j = true ↔ ∃ k, k < n ∧ A i k = true ∧ B k j = true := by simp [behR]

inductive TC (n : Nat) (K : Rl) : Nat → Nat → Prop
  | one {i j : Nat} : K i j = true → TC n K i j
  | more {i k j : Nat} : TC n K i k → k < n → K k j = true → TC n K i j

theorem itR_tc {n : Nat} {K : Rl} : ∀ (r : Nat) {i j : Nat}, itR n K r i j = true → TC n K i j
  | 0, _, _, h => .one h
  | r + 1, i, j, h => by
    rcases orR_iff.1 h with h | h
    · exact itR_tc r h
    · obtain ⟨k, hk, h1, h2⟩ := behR_iff.1 h
      exact .more (itR_tc r h1) hk h2
theorem itR_mono {n : Nat} {K : Rl} {r : Nat} {i j : Nat} (h : itR n K r i j = true) : itR n K (r + 1) i j = true := orR_iff.2 (.inl h)
theorem countP_lt {p q : Nat → Bool} : ∀ (l : List Nat), (∀ x ∈ l, p x = true → q x = true) → (∃ x ∈ l, q x = true ∧ p x = false) → l.countP p < l.countP q
  | [], _, h => by obtain ⟨x, hx, _⟩ := h; simp at hx
  | y :: l, hpq, h => by
    have hle : l.countP p ≤ l.countP q := List.countP_mono_left (fun x hx => hpq x (List.mem_cons_of_mem _ hx))
    rw [List.countP_cons, List.countP_cons]
    obtain ⟨x, hx, h1, h2⟩ := h
    rcases List.mem_cons.1 hx with rfl | hx
    · rw [h1, h2]; simp; omega
    · have := countP_lt l (fun x hx => hpq x (List.mem_cons_of_mem _ hx)) ⟨x, hx, h1, h2⟩
      have hy := hpq y (List.mem_cons_self ..)
      rcases hp : p y with _ | _
      · simp; omega
      · rw [hy hp]; simp; omega
theorem itR_grows (n : Nat) (K : Rl) (i : Nat) : ∀ r, (∀ k, k < n → itR n K (r + 1) i k = itR n K r i k) ∨ r ≤ (List.range n).countP (itR n K r i)
  | 0 => .inr (Nat.zero_le _)
  | r + 1 => by
    have next : (∀ k, k < n → itR n K (r + 1) i k = itR n K r i k) → ∀ k, k < n → itR n K (r + 2) i k = itR n K (r + 1) i k := by
      intro h k hk
      have hb : behR n (itR n K (r + 1)) K i k = behR n (itR n K r) K i k := by
        rw [Bool.eq_iff_iff, behR_iff, behR_iff]
        constructor
        · rintro ⟨m, hm, h1, h2⟩; exact ⟨m, hm, by rw [← h m hm]; exact h1, h2⟩
        · rintro ⟨m, hm, h1, h2⟩; exact ⟨m, hm, by rw [h m hm]; exact h1, h2⟩
      show (itR n K (r + 1) i k || behR n (itR n K (r + 1)) K i k) = (itR n K r i k || behR n (itR n K r) K i k)
      rw [h k hk, hb]
    rcases itR_grows n K i r with h | h
    · exact .inl (next h)
    · by_cases hs : ∀ k, k < n → itR n K (r + 1) i k = itR n K r i k
      · exact .inl (next hs)
      · right
        obtain ⟨k, hk⟩ := Classical.not_forall.1 hs
        obtain ⟨hkn, hne⟩ := Classical.not_imp.1 hk
        have : (List.range n).countP (itR n K r i) < (List.range n).countP (itR n K (r + 1) i) := by
          refine countP_lt _ (fun x _ h => itR_mono h) ⟨k, List.mem_range.2 hkn, ?_⟩
          rcases h0 : itR n K r i k with _ | _
          · rcases h1 : itR n K (r + 1) i k with _ | _
            · rw [h0, h1] at hne; exact absurd rfl hne
            · exact ⟨rfl, rfl⟩
          · rw [h0, itR_mono h0] at hne; exact absurd rfl hne
        omega
theorem countP_full {p : Nat → Bool} : ∀ (l : List Nat), l.length ≤ l.countP p → ∀ x ∈ l, p x = true
  | [], _, x, hx => by simp at hx
  | y :: l, h, x, hx => by
    rw [List.countP_cons, List.length_cons] at h
    have hle := List.countP_le_length (p := p) (l := l)
    have hy : p y = true := by
      rcases hp : p y with _ | _
      · rw [hp] at h; simp at h; omega
      · rfl
    rcases List.mem_cons.1 hx with rfl | hx
    · exact hy
    · rw [hy] at h; simp at h; exact countP_full l (by omega) x hx
theorem itR_stable (n : Nat) (K : Rl) (i : Nat) : ∀ k, k < n → itR n K (n + 1) i k = itR n K n i k := by
  rcases itR_grows n K i n with h | h
  · exact h
  · intro k hk
    have := countP_full (List.range n) (by simpa using h) k (List.mem_range.2 hk)
    rw [this, itR_mono this]
theorem plusR_iff {n : Nat} {K : Rl} {i j : Nat} (hj : j < n) : plusR n K i j = true ↔ TC n K i j := by
  constructor
  · exact itR_tc n
  · intro h
    induction h with
    | one h =>
      have : ∀ r, itR n K r i _ = true := fun r => by
        induction r with
        | zero => exact h
        | succ r ih => exact itR_mono ih
      exact this n
    | more h1 hk h2 ih =>
      have := ih hk
      show itR n K n _ _ = true
      rw [← itR_stable n K _ _ hj]
      exact orR_iff.2 (.inr (behR_iff.2 ⟨_, hk, this, h2⟩))
theorem TC.cons {n : Nat} {K : Rl} {i k j : Nat} (h1 : K i k = true) (hk : k < n) (h2 : TC n K k j) : TC n K i j := by
  induction h2 with
  | one h => exact .more (.one h1) hk h
  | more _ hm h ih => exact .more ih hm h
theorem TC.first {n : Nat} {K : Rl} {i j : Nat} (h : TC n K i j) : K i j = true ∨ ∃ k, k < n ∧ K i k = true ∧ TC n K k j := by
  induction h with
  | one h => exact .inl h
  | more h1 hk h ih =>
    right
    rcases ih with h3 | ⟨m, hm, h3, h4⟩
    · exact ⟨_, hk, h3, .one h⟩
    · exact ⟨m, hm, h3, .more h4 hk h⟩
theorem TC.congr {n : Nat} {K L : Rl} {i j : Nat} (h : TC n K i j) (hi : i < n) (hj : j < n) (hL : ∀ a b, a < n → b < n → K a b = L a b) : TC n L i j := by
  induction h with
  | one h => exact .one (by rw [← hL _ _ hi hj]; exact h)
  | more _ hk h ih => exact .more (ih hk) hk (by rw [← hL _ _ hk hj]; exact h)

def Rep (n : Nat) (f : Nat → Nat) (R : Rl) : Prop := ∀ i, i < n → ∀ j, (f i).testBit j = (decide (j < n) && R i j)
def orF (f g : Nat → Nat) : Nat → Nat := fun v => f v ||| g v
def idF : Nat → Nat := fun v => 2 ^ v
def thenTo (f g : Nat → Nat) (v : Nat) : Nat → Nat
  | 0 => 0
  | m + 1 => if (f v).testBit m = true then thenTo f g v m ||| g m else thenTo f g v m
def thenF (f g : Nat → Nat) : Nat → Nat := fun v => thenTo f g v 13
theorem thenTo_bit (f g : Nat → Nat) (v j : Nat) : ∀ m, (thenTo f g v m).testBit j = true ↔ ∃ k, k < m ∧ (f v).testBit k = true ∧ (g k).testBit j = true
  | 0 => by simp [thenTo]
  | m + 1 => by
    have ih := thenTo_bit f g v j m
    unfold thenTo
    constructor
    · intro h
      split at h
      · rename_i hm
        rw [Nat.testBit_or, Bool.or_eq_true] at h
        rcases h with h | h
        · obtain ⟨k, hk, h1⟩ := ih.1 h; exact ⟨k, by omega, h1⟩
        · exact ⟨m, by omega, hm, h⟩
      · obtain ⟨k, hk, h1⟩ := ih.1 h; exact ⟨k, by omega, h1⟩
    · rintro ⟨k, hk, h1, h2⟩
      by_cases e : k = m
      · subst e; rw [if_pos h1, Nat.testBit_or, h2, Bool.or_true]
      · have := ih.2 ⟨k, by omega, h1, h2⟩
        split
        · rw [Nat.testBit_or, this, Bool.true_or]
        · exact this
theorem Rep.or {n : Nat} {f g : Nat → Nat} {A B : Rl} (h : Rep n f A) (h' : Rep n g B) : Rep n (orF f g) (orR A B) := by
  intro i hi j
  show (f i ||| g i).testBit j = _
  rw [Nat.testBit_or, h i hi, h' i hi, orR]
  cases decide (j < n) <;> simp
theorem Rep.id (n : Nat) : Rep n idF idR := by
  intro i hi j
  show (2 ^ i).testBit j = _
  rw [Nat.testBit_two_pow, idR]
  by_cases e : i = j
  · subst e; simp [hi]
  · simp [e]
theorem Rep.none (n : Nat) : Rep n (fun _ => 0) noR := by
  intro i hi j; simp [noR]
theorem Rep.congr {n : Nat} {f : Nat → Nat} {A B : Rl} (h : Rep n f A) (e : ∀ i j, i < n → j < n → A i j = B i j) : Rep n f B := by
  intro i hi j
  rw [h i hi]
  by_cases hj : j < n
  · rw [e i j hi hj]
  · simp [hj]
structure Again (n : Nat) (K : Rl) (f : Nat → Nat) : Prop where
  low : ∀ i, i < n → (f i).testBit i = true
  up : ∀ i, i < n → ∀ j, (f i).testBit j = true → j < n ∧ starR n K i j = true
theorem Again.start (n : Nat) (K : Rl) : Again n K idF := by
  refine ⟨fun i _ => by simp [idF], fun i hi j h => ?_⟩
  simp [idF, Nat.testBit_two_pow] at h
  subst h
  exact ⟨hi, orR_iff.2 (.inr (idR_iff.2 rfl))⟩
theorem Again.step {n : Nat} {K : Rl} {f g : Nat → Nat} (h : Again n K f) (hg : Rep n g K) : Again n K (orF f (thenF f g)) := by
  refine ⟨fun i hi => by show (f i ||| _).testBit i = true; rw [Nat.testBit_or, h.low i hi, Bool.true_or], fun i hi j hj => ?_⟩
  have hj2 : (f i ||| thenF f g i).testBit j = true := hj
  rw [Nat.testBit_or, Bool.or_eq_true] at hj2
  rcases hj2 with h1 | h1
  · exact h.up i hi j h1
  · rw [thenF, thenTo_bit] at h1
    obtain ⟨k, _, h2, h3⟩ := h1
    obtain ⟨hk, h4⟩ := h.up i hi k h2
    rw [hg k hk, Bool.and_eq_true, decide_eq_true_eq] at h3
    refine ⟨h3.1, orR_iff.2 (.inl ((plusR_iff h3.1).2 ?_))⟩
    rcases orR_iff.1 h4 with h5 | h5
    · exact .more ((plusR_iff hk).1 h5) hk h3.2
    · obtain rfl := idR_iff.1 h5; exact .one h3.2
def sumF (f : Nat → Nat) : Nat := ((List.range 13).map f).sum
end Go.Proofs.YtbepmeipjdpipaaGreat

namespace Go.Proofs.YtbepmeipjdpipaaGreat
open Go.RowKit

theorem cell_one_new' (w : World) (x : Value) (T : TypeId) : ∀ j u, [x][j]? = some u → (w.alloc (.cells #[x] T)).cell? ((⟨w.heap.size, 0, none⟩ : Addr).add j) = some u := by
  intro j u hu
  cases j with
  | zero =>
    simp at hu; subst hu
    rw [add_none]
    exact (blk_one w _ rfl x T).cell (i := 0) (by omega)
  | succ j => simp at hu
theorem take_snocI (l : List Int) {k : Nat} (h : k < l.length) : l.take (k + 1) = l.take k ++ [l.getD k 0] := by
  rw [List.take_add_one]; simp [List.getD, h]
theorem rowCells_snoc (l : List Int) (x : Int) : rowCells (l ++ [x]) = rowCells l ++ [.int .i64 x] := by simp [rowCells]
theorem RowIn.num {lo hi i : Nat} {w : World} {a : Option Addr} {l : List Int} (h : RowIn lo hi w a l) (hi' : i < l.length) : ∃ b o, a = some ⟨b, o, none⟩ ∧ w.cell? ⟨b, o + i, none⟩ = some (.int .i64 (l.getD i 0)) := by
  rcases h with rfl | ⟨b, o, e, _, _, h3⟩
  · simp at hi'
  · exact ⟨b, o, e, h3 i hi'⟩
end Go.Proofs.YtbepmeipjdpipaaGreat

namespace Go.Proofs.YtbepmeipjdpipaaGreat
open Go.RowKit

def isL (x : Int) : Bool := decide (97 ≤ x) && decide (x ≤ 100)
set_option maxHeartbeats 1000000 in
theorem isLabel_any (x : Int) (r : Bool) (w : World) (hr : r = isL x) : Calls Tryz.prog 88 #[.int .u8 x] w fun e w' => e = .returned (.bool r) ∧ w = w' := by
  by_cases h0 : 97 ≤ x
  · have hd : decide (x ≥ 97) = true := by simpa using h0
    have hr2 : decide (x ≤ 100) = r := by rw [hr]; unfold isL; simp [h0]
    clear hr
    go_enter Tryz.func88, Tryz.ntmps88
    go_wp2
    go_ret
    exact ⟨rfl, rfl⟩
  · have hd : decide (x ≥ 97) = false := by simp; omega
    have hr2 : r = false := by rw [hr]; unfold isL; simp [h0]
    subst hr2
    clear hr
    go_enter Tryz.func88, Tryz.ntmps88
    go_wp2
    go_ret
    exact ⟨rfl, rfl⟩
def formOk (x : Pc) : Bool :=
  if x.1 = 1 then isL x.2.1 && decide (x.2.2.length = 0)
  else if x.1 = 2 ∨ x.1 = 3 then decide (x.2.1 = 0) && decide (2 ≤ x.2.2.length)
  else if x.1 = 4 ∨ x.1 = 5 ∨ x.1 = 6 then decide (x.2.1 = 0) && decide (x.2.2.length = 1)
  else false
def kidsOk (i : Nat) (ks : List Int) : Bool := ks.all fun k => decide (0 ≤ k) && decide (k < (i : Int))
def okToP (l : List Pc) : Nat → Bool
  | 0 => true
  | k + 1 => okToP l k && (formOk (pat l k) && kidsOk k (pat l k).2.2)
def okP (l : List Pc) : Bool := decide (1 ≤ l.length) && decide (l.length ≤ 60) && okToP l l.length
theorem okToP_no {l : List Pc} {k : Nat} (h : okToP l k = false) : ∀ n, k ≤ n → okToP l n = false := by
  intro n hn
  induction n with
  | zero => obtain rfl : k = 0 := by omega
            exact h
  | succ n ih =>
    rcases Nat.lt_or_ge k (n + 1) with h1 | h1
    · simp only [okToP]; rw [ih (by omega)]; rfl
    · obtain rfl : k = n + 1 := by omega
      exact h
theorem okP_no {l : List Pc} {k : Nat} (hk : k < l.length) (h : (formOk (pat l k) && kidsOk k (pat l k).2.2) = false) : okP l = false := by
  unfold okP
  rw [okToP_no (k := k + 1) (by simp only [okToP]; rw [h, Bool.and_false]) l.length (by omega), Bool.and_false]
theorem kidsOk_no {i : Nat} {ks : List Int} {j : Nat} (hj : j < ks.length) (h : (decide (0 ≤ ks.getD j 0) && decide (ks.getD j 0 < (i : Int))) = false) : kidsOk i ks = false := by
  rw [Bool.eq_false_iff]
  intro h1
  have := List.all_eq_true.1 h1 (ks.getD j 0) (by simp [List.getD, hj])
  rw [this] at h
  cases h
theorem kidsOk_yes {i : Nat} {ks : List Int} (h : ∀ j, j < ks.length → (decide (0 ≤ ks.getD j 0) && decide (ks.getD j 0 < (i : Int))) = true) : kidsOk i ks = true := by
  refine List.all_eq_true.2 fun x hx => ?_
  obtain ⟨j, hj, rfl⟩ := List.getElem_of_mem hx
  have := h j hj
  simpa [List.getD, hj] using this
theorem formOk_cases {x y : Int} {ks : List Int} (h : formOk (x, y, ks) = true) : (x = 1 ∧ isL y = true ∧ ks.length = 0) ∨ (x = 2 ∧ y = 0 ∧ 2 ≤ ks.length) ∨ (x = 3 ∧ y = 0 ∧ 2 ≤ ks.length) ∨ (x = 4 ∧ y = 0 ∧ ks.length = 1) ∨ (x = 5 ∧ y = 0 ∧ ks.length = 1) ∨ (x = 6 ∧ y = 0 ∧ ks.length = 1) := by
  unfold formOk at h
  dsimp only at h
  by_cases h1 : x = 1
  · rw [if_pos h1, Bool.and_eq_true, decide_eq_true_eq] at h; exact .inl ⟨h1, h⟩
  · rw [if_neg h1] at h
    by_cases h2 : x = 2 ∨ x = 3
    · rw [if_pos h2, Bool.and_eq_true, decide_eq_true_eq, decide_eq_true_eq] at h
      rcases h2 with h2 | h2
      · exact .inr (.inl ⟨h2, h⟩)
      · exact .inr (.inr (.inl ⟨h2, h⟩))
    · rw [if_neg h2] at h
      by_cases h3 : x = 4 ∨ x = 5 ∨ x = 6
      · rw [if_pos h3, Bool.and_eq_true, decide_eq_true_eq, decide_eq_true_eq] at h
        rcases h3 with h3 | h3 | h3
        · exact .inr (.inr (.inr (.inl ⟨h3, h⟩)))
        · exact .inr (.inr (.inr (.inr (.inl ⟨h3, h⟩))))
        · exact .inr (.inr (.inr (.inr (.inr ⟨h3, h⟩))))
      · rw [if_neg h3] at h; cases h
theorem formOk_not {x y : Int} {ks : List Int} (h : formOk (x, y, ks) = false) : (x = 1 ∧ (isL y = false ∨ ks.length ≠ 0)) ∨ ((x = 2 ∨ x = 3) ∧ (y ≠ 0 ∨ ks.length < 2)) ∨ ((x = 4 ∨ x = 5 ∨ x = 6) ∧ (y ≠ 0 ∨ ks.length ≠ 1)) ∨ (x ≠ 1 ∧ x ≠ 2 ∧ x ≠ 3 ∧ x ≠ 4 ∧ x ≠ 5 ∧ x ≠ 6) := by
  unfold formOk at h
  dsimp only at h
  by_cases h1 : x = 1
  · rw [if_pos h1, Bool.and_eq_false_iff, decide_eq_false_iff_not] at h; exact .inl ⟨h1, h⟩
  · rw [if_neg h1] at h
    by_cases h2 : x = 2 ∨ x = 3
    · rw [if_pos h2, Bool.and_eq_false_iff, decide_eq_false_iff_not, decide_eq_false_iff_not] at h
      exact .inr (.inl ⟨h2, h.imp id (fun h => by omega)⟩)
    · rw [if_neg h2] at h
      by_cases h3 : x = 4 ∨ x = 5 ∨ x = 6
      · rw [if_pos h3, Bool.and_eq_false_iff, decide_eq_false_iff_not, decide_eq_false_iff_not] at h
        exact .inr (.inr (.inl ⟨h3, h⟩))
      · exact .inr (.inr (.inr ⟨h1, fun e => h2 (.inl e), fun e => h2 (.inr e), fun e => h3 (.inl e), fun e => h3 (.inr (.inl e)), fun e => h3 (.inr (.inr e))⟩))
theorem isL_yes {y : Int} (h : isL y = true) : 97 ≤ y ∧ y ≤ 100 := by
  unfold isL at h; rw [Bool.and_eq_true, decide_eq_true_eq, decide_eq_true_eq] at h; exact h
theorem isL_no {y : Int} (h : isL y = false) : y < 97 ∨ 100 < y := by
  unfold isL at h; rw [Bool.and_eq_false_iff, decide_eq_false_iff_not, decide_eq_false_iff_not] at h; omega

set_option maxHeartbeats 8000000 in
set_option maxRecDepth 100000 in
theorem specPathOk_any (lo hi : Nat) (a : Option Addr) (n cap : Nat) (l : List Pc) (r : Bool) (w : World) (ha : PathIn lo hi w a l) (hh : hi ≤ w.heap.size) (hn : l.length = n) (hm : n ≤ 1048576) (hq : ∀ i, i < n → (pat l i).2.2.length ≤ 1048576) (hr : r = okP l) :
    Calls Tryz.prog 57 #[pv a n cap] w fun e w' => e = .returned (.bool r) ∧ Hid (Below w.heap.size w w') := by
  have HN : Hid (l.length = n) := hn
  have HA : Hid (PathIn lo hi w a l) := ha
  have HH : Hid (hi ≤ w.heap.size) := hh
  have HR : Hid (r = okP l) := hr
  have HQ : Hid (∀ i, i < n → (pat l i).2.2.length ≤ 1048576) := hq
  clear ha hh hn hr hq
  obtain ⟨B, HB⟩ : ∃ B, Hid (B = w.heap.size) := ⟨_, rfl⟩
  unfold pv
  go_enter Tryz.func57, Tryz.ntmps57
  go_wp2
  rw [← HB.out]
  go_loopw [3] (fun i wr => ∃ k : Nat, i = .int .i64 k ∧ k ≤ n ∧ Hid (okToP l k = true) ∧ Hid (Below w.heap.size w wr) ∧ Hid (Blk wr B 1 (fun _ => .slice a n cap))) (fun i _ => n - (intOf i).toNat)
  case atStart => exact ⟨0, rfl, by omega, rfl, below1 _ _, blk_one w B HB.out _ _⟩
  case round =>
    obtain ⟨k, rfl, hk, HE, HL, HX⟩ := hrel
    have c0 := HX.out.cell (i := 0) (by omega)
    by_cases hlt : k < n
    · have hlt1 : (k : Int) < (n : Int) := by omega
      have hlt0 : (0 : Int) ≤ (k : Int) := by omega
      have HER : Hid (PathIn lo hi wr a l) := HA.out.below HL.out HH.out
      obtain ⟨b, o, rfl, _, _, hx⟩ := HER.out.piece (k := k) (by rw [HN.out]; exact hlt)
      obtain ⟨z, HZ⟩ : ∃ z : Pc, Hid (z = pat l k) := ⟨_, rfl⟩
      have HQK : Hid ((pat l k).2.2.length ≤ 1048576) := HQ.out k hlt
      have HNO : Hid ((formOk (pat l k) && kidsOk k (pat l k).2.2) = false → r = false) := fun h => by rw [HR.out]; exact okP_no (by rw [HN.out]; exact hlt) h
      have HYES : Hid ((formOk (pat l k) && kidsOk k (pat l k).2.2) = true → okToP l (k + 1) = true) := fun h => by simp only [okToP]; rw [HE.out, h]; rfl
      rw [← HZ.out] at hx HQK HNO HYES
      obtain ⟨x, y, ks⟩ := z
      obtain ⟨p0, p1, ra, rc, p2, hrow⟩ := hx
      dsimp only at p0 p1 p2 hrow HQK HNO HYES
      obtain ⟨q, HKL⟩ : ∃ q, Hid (ks.length = q) := ⟨_, rfl⟩
      rw [HKL.out] at p2 HQK
      have hqk : q ≤ 1048576 := HQK.out
      obtain ⟨E, HEE⟩ : ∃ E, Hid (E = wr.heap.size) := ⟨_, rfl⟩
      obtain ⟨W, HW⟩ : ∃ W, Hid (W = wr.alloc (.cells #[.int .i64 x, .int .u8 y, .slice ra q rc] 127)) := ⟨_, rfl⟩
      have HWB : Hid (Below wr.heap.size wr W) := by rw [HW.out]; exact below1 _ _
      obtain ⟨q0, q1, q2⟩ : W.cell? ⟨E, 0, none⟩ = some (.int .i64 x) ∧ W.cell? ⟨E, 1, none⟩ = some (.int .u8 y) ∧ W.cell? ⟨E, 2, none⟩ = some (.slice ra q rc) := by rw [HW.out]; exact box_cells wr _ _ _ 127 _ HEE.out
      have HRW : Hid (RowIn lo hi W ra ks) := hrow.below HWB.out (Nat.le_trans HH.out HL.out.size)
      have HLW : Hid (Below w.heap.size w W) := HL.out.trans (HWB.out.mono HL.out.size)
      have HXW : Hid (Blk W B 1 (fun _ => .slice (some ⟨b, o, none⟩) n cap)) := HX.out.of_block (HWB.out.block _ HX.out.lt)
      clear hrow HWB
      go_upto_block 2 with fail
      rw [← HEE.out, ← HW.out]
      clear p0 p1 p2 c0 HER HX HL HA HQK
      by_cases hf : formOk (x, y, ks) = true
      · go_cut [] (fun wc => wc = W)
        case first =>
          rcases formOk_cases hf with ⟨rfl, h1, h2⟩ | ⟨rfl, rfl, h2⟩ | ⟨rfl, rfl, h2⟩ | ⟨rfl, rfl, h2⟩ | ⟨rfl, rfl, h2⟩ | ⟨rfl, rfl, h2⟩
          · obtain ⟨h3, h4⟩ := isL_yes h1
            obtain rfl : q = 0 := by have := HKL.out; omega
            have d1 : decide (y < 97) = false := by simp; omega
            have d2 : decide ((100 : Int) < y) = false := by simp; omega
            go_wp2_with fail
            go_meet
            case rel => rfl
          · have d1 : decide ((q : Int) < 2) = false := by have := HKL.out; simp; omega
            go_wp2_with fail
            go_meet
            case rel => rfl
          · have d1 : decide ((q : Int) < 2) = false := by have := HKL.out; simp; omega
            go_wp2_with fail
            go_meet
            case rel => rfl
          · obtain rfl : q = 1 := by have := HKL.out; omega
            go_wp2_with fail
            go_meet
            case rel => rfl
          · obtain rfl : q = 1 := by have := HKL.out; omega
            go_wp2_with fail
            go_meet
            case rel => rfl
          · obtain rfl : q = 1 := by have := HKL.out; omega
            go_wp2_with fail
            go_meet
            case rel => rfl
        case rest =>
          subst hcut
          have HNO2 : Hid (kidsOk k ks = false → r = false) := fun h => HNO.out (by rw [hf, h]; rfl)
          have HYES2 : Hid (kidsOk k ks = true → okToP l (k + 1) = true) := fun h => HYES.out (by rw [hf, h]; rfl)
          clear HNO HYES hf
          go_wp2
          go_loop [6] (fun j => ∃ m : Nat, j = .int .i64 m ∧ m ≤ q ∧ Hid (∀ t, t < m → (decide (0 ≤ ks.getD t 0) && decide (ks.getD t 0 < (k : Int))) = true)) (fun j => q - (intOf j).toNat)
          case atStart => exact ⟨0, rfl, by omega, fun t ht => absurd ht (by omega)⟩
          case round =>
            obtain ⟨m, rfl, hm1, HP⟩ := hrel
            by_cases hmq : m < q
            · have hmq1 : (m : Int) < (q : Int) := by omega
              have hmq0 : (0 : Int) ≤ (m : Int) := by omega
              obtain ⟨b2, o2, rfl, hc⟩ := HRW.out.num (i := m) (by rw [HKL.out]; exact hmq)
              obtain ⟨v, HV⟩ : ∃ v, Hid (v = ks.getD m 0) := ⟨_, rfl⟩
              rw [← HV.out] at hc
              obtain ⟨u, HU⟩ : ∃ u, Hid (u = (decide (0 ≤ v) && decide (v ≤ (k : Int) - 1))) := ⟨_, rfl⟩
              have HUU : Hid (u = (decide (0 ≤ v) && decide (v < (k : Int)))) := by
                show _ = _
                rw [HU.out]
                have : decide (v ≤ (k : Int) - 1) = decide (v < (k : Int)) := by rw [decide_eq_decide]; omega
                rw [this]
              go_wp2_with fail
              refine (l01In_any v 0 ((k : Int) - 1) _).mono ?_
              rintro e w1 ⟨rfl, rfl⟩
              rw [← HU.out]
              rcases Bool.eq_false_or_eq_true u with hu | hu
              · subst hu
                go_wp2
                go_roundw
                case rel =>
                  refine ⟨m + 1, by go_num, by omega, fun t ht => ?_⟩
                  by_cases e : t = m
                  · subst e; rw [← HV.out]; exact HUU.out.symm
                  · exact HP.out t (by omega)
                case measure => simp [intOf]; omega
              · subst hu
                go_wp2
                go_ret
                have : r = false := HNO2.out (kidsOk_no (j := m) (by rw [HKL.out]; exact hmq) (by rw [← HV.out]; exact HUU.out.symm))
                exact ⟨by rw [this]; rfl, HLW⟩
            · obtain rfl : m = q := by omega
              go_wp2
              go_roundw
              case rel => exact ⟨k + 1, by go_num, by omega, HYES2.out (kidsOk_yes (fun j hj => HP.out j (by rw [← HKL.out]; exact hj))), HLW, HXW⟩
              case measure => simp [intOf]; omega
      · have hff : formOk (x, y, ks) = false := by simpa using hf
        have HF : Hid (r = false) := HNO.out (by rw [hff]; rfl)
        rcases formOk_not hff with ⟨rfl, h⟩ | ⟨h1, h2⟩ | ⟨h1, h2⟩ | ⟨h1, h2, h3, h4, h5, h6⟩
        · by_cases h1 : isL y = true
          · obtain ⟨h3, h4⟩ := isL_yes h1
            have d1 : decide (y < 97) = false := by simp; omega
            have d2 : decide ((100 : Int) < y) = false := by simp; omega
            have d3 : ¬ (q : Int) = 0 := by have := HKL.out; rcases h with h | h; rw [h1] at h; cases h; omega
            have d4 : ¬ q = 0 := by omega
            go_wp2
            go_ret
            exact ⟨by rw [HF.out]; rfl, HLW⟩
          · rcases isL_no (by simpa using h1) with h3 | h3
            · have d1 : decide (y < 97) = true := by simp; omega
              go_wp2
              go_ret
              exact ⟨by rw [HF.out]; rfl, HLW⟩
            · have d1 : decide (y < 97) = false := by simp; omega
              have d2 : decide ((100 : Int) < y) = true := by simp; omega
              go_wp2
              go_ret
              exact ⟨by rw [HF.out]; rfl, HLW⟩
        · by_cases hy : y = 0
          · subst hy
            have d1 : decide ((q : Int) < 2) = true := by have := HKL.out; rcases h2 with h | h; exact absurd rfl h; simp; omega
            rcases h1 with rfl | rfl
            · go_wp2
              go_ret
              exact ⟨by rw [HF.out]; rfl, HLW⟩
            · go_wp2
              go_ret
              exact ⟨by rw [HF.out]; rfl, HLW⟩
          · rcases h1 with rfl | rfl
            · go_wp2
              go_ret
              exact ⟨by rw [HF.out]; rfl, HLW⟩
            · go_wp2
              go_ret
              exact ⟨by rw [HF.out]; rfl, HLW⟩
        · by_cases hy : y = 0
          · subst hy
            have d3 : ¬ (q : Int) = 1 := by have := HKL.out; rcases h2 with h | h; exact absurd rfl h; omega
            have d4 : ¬ q = 1 := by omega
            rcases h1 with rfl | rfl | rfl
            · go_wp2
              go_ret
              exact ⟨by rw [HF.out]; rfl, HLW⟩
            · go_wp2
              go_ret
              exact ⟨by rw [HF.out]; rfl, HLW⟩
            · go_wp2
              go_ret
              exact ⟨by rw [HF.out]; rfl, HLW⟩
          · rcases h1 with rfl | rfl | rfl
            · go_wp2
              go_ret
              exact ⟨by rw [HF.out]; rfl, HLW⟩
            · go_wp2
              go_ret
              exact ⟨by rw [HF.out]; rfl, HLW⟩
            · go_wp2
              go_ret
              exact ⟨by rw [HF.out]; rfl, HLW⟩
        · go_wp2
          go_ret
          exact ⟨by rw [HF.out]; rfl, HLW⟩
    · obtain rfl : k = n := by omega
      have HRR : Hid (r = (decide ((1 : Int) ≤ (k : Int)) && decide ((k : Int) ≤ 60))) := by
        show _ = _
        rw [HR.out]; unfold okP; rw [HN.out, HE.out, Bool.and_true]
        have e1 : decide (1 ≤ k) = decide ((1 : Int) ≤ (k : Int)) := by rw [decide_eq_decide]; omega
        have e2 : decide (k ≤ 60) = decide ((k : Int) ≤ 60) := by rw [decide_eq_decide]; omega
        rw [e1, e2]
      go_wp2_with fail
      refine (l01In_any (k : Int) 1 60 _).mono ?_
      rintro e w1 ⟨rfl, rfl⟩
      rw [← HRR.out]
      go_wp2
      go_ret
      exact ⟨rfl, HL⟩
end Go.Proofs.YtbepmeipjdpipaaGreat
