/-
  Proved: at every drawn code, FnPathEnds answers true: over the drawn graph, where two paths one behind the other lead is where the second leads from where the first leads, where one of two leads is where either leads, where one that may be left out leads is where it leads or nowhere else; the drawn path's text is read, and the path is right; nothing that was in memory is changed. No condition.
-/
import Derived.Test.YtdbogikcmfnpdaaLdM
import Derived.Test.YtdbogikcmfnpdaaQRd
import Derived.Test.YtdbogikcmfnpdaaQLf
import Derived.Test.YtdbogikcmfnpdaaQDr
import Derived.Test.YtdbogikcmfnpdaaShpB
import Derived.Test.YtdbogikcmfnpdaaHld
import Derived.Deep.RegionHeld3
import Derived.Deep.DeepCutAuto
import Derived.WalkKit
import Derived.ProofKit
import Derived.OpenShut
import Derived.ShutString
import Derived.ChangeOld
import Derived.Below
/-
  Where a path that is made of two, or of one, leads.
-/
namespace Go.Proofs.Ytdbogikcmfnpdaa
open Go.RowKit

def shiftP (m : Nat) (pu : List Pc) : List Pc := pu.map fun x => (x.1, x.2.1, x.2.2.map (· + (m : Int)))
/-- two one behind the other (2), any of two (3) -/
def twoP (op : Int) (pt pu : List Pc) : List Pc := pt ++ shiftP pt.length pu ++ [(op, 0, [((pt.length - 1 : Nat) : Int), ((pt.length + pu.length - 1 : Nat) : Int)])]
/-- one again and again, or not at all -/
def oneMore (op : Int) (pt : List Pc) : List Pc := pt ++ [(op, 0, [((pt.length - 1 : Nat) : Int)])]
theorem pat_left {l m : List Pc} {i : Nat} (h : i < l.length) : pat (l ++ m) i = pat l i := by simp [pat, List.getD, List.getElem?_append_left h]
theorem pat_right {l m : List Pc} {i : Nat} : pat (l ++ m) (l.length + i) = pat m i := by
  unfold pat List.getD
  rw [List.getElem?_append_right (by omega), Nat.add_sub_cancel_left]
theorem shiftP_len (m : Nat) (pu : List Pc) : (shiftP m pu).length = pu.length := by simp [shiftP]
theorem shiftP_at {m : Nat} {pu : List Pc} {i : Nat} (h : i < pu.length) : pat (shiftP m pu) i = ((pat pu i).1, (pat pu i).2.1, (pat pu i).2.2.map (· + (m : Int))) := by simp [shiftP, pat, List.getD, h]
theorem relTo_left (n : Nat) (l : List Ed) (ps qs : List Pc) : ∀ k, k ≤ ps.length → relTo n l (ps ++ qs) k = relTo n l ps k
  | 0, _ => rfl
  | k + 1, h => by
    rw [relTo, relTo, relTo_left n l ps qs k (by omega), pat_left (by omega)]
theorem getR_shift {R1 R2 : List Rl} {m : Nat} (h : R1.length = m) {z : Int} (hz : 0 ≤ z) : getR (R1 ++ R2) (z + (m : Int)) = getR R2 z := by
  unfold getR List.getD
  have e : (z + (m : Int)).toNat = m + z.toNat := by omega
  rw [e, List.getElem?_append_right (by omega)]
  have e2 : m + z.toNat - R1.length = z.toNat := by omega
  rw [e2]
theorem fold_shift {R1 R2 : List Rl} {m : Nat} (h : R1.length = m) (F : Rl → Rl → Rl) : ∀ (ks : List Int) (A : Rl), (∀ z ∈ ks, 0 ≤ z) → (ks.map (· + (m : Int))).foldl (fun A k => F A (getR (R1 ++ R2) k)) A = ks.foldl (fun A k => F A (getR R2 k)) A
  | [], _, _ => rfl
  | k :: ks, A, hk => by
    rw [List.map_cons, List.foldl_cons, List.foldl_cons, getR_shift h (hk k (List.mem_cons_self ..))]
    exact fold_shift h F ks _ (fun z hz => hk z (List.mem_cons_of_mem _ hz))
theorem pcR_shift {n : Nat} {l : List Ed} {R1 R2 : List Rl} {m : Nat} (h : R1.length = m) {x : Pc} (hx : ∀ z ∈ x.2.2, 0 ≤ z) : pcR n l (R1 ++ R2) (x.1, x.2.1, x.2.2.map (· + (m : Int))) = pcR n l R2 x ∨ x.2.2 = [] := by
  by_cases h0 : x.2.2 = []
  · exact .inr h0
  · left
    obtain ⟨a, b, ks⟩ := x
    dsimp only at hx h0 ⊢
    match ks, h0 with
    | k :: r, _ =>
      unfold pcR
      dsimp only
      have hk := hx k (List.mem_cons_self ..)
      have g0 : getR (R1 ++ R2) (((k :: r).map (· + (m : Int))).getD 0 0) = getR R2 ((k :: r).getD 0 0) := getR_shift h hk
      have gr : rowR n (R1 ++ R2) ((k :: r).map (· + (m : Int))) = rowR n R2 (k :: r) := by
        show (r.map (· + (m : Int))).foldl (fun A k => behR n A (getR (R1 ++ R2) k)) (getR (R1 ++ R2) (k + (m : Int))) = r.foldl (fun A k => behR n A (getR R2 k)) (getR R2 k)
        rw [getR_shift h hk]
        exact fold_shift h (behR n) r _ (fun z hz => hx z (List.mem_cons_of_mem _ hz))
      have ga : altR (R1 ++ R2) ((k :: r).map (· + (m : Int))) = altR R2 (k :: r) := fold_shift h orR (k :: r) _ hx
      rw [g0, gr, ga]
theorem pcR_none {n : Nat} {l : List Ed} {R R' : List Rl} {x : Pc} (h1 : x.1 = 1) : pcR n l R x = pcR n l R' x := by
  unfold pcR
  rw [if_pos h1, if_pos h1]
theorem okQ_at {l : List Pc} (h : okP l = true) {k : Nat} (hk : k < l.length) : formOk (pat l k) = true ∧ kidsOk k (pat l k).2.2 = true := by
  have go : ∀ n, okToP l n = true → k < n → formOk (pat l k) = true ∧ kidsOk k (pat l k).2.2 = true := by
    intro n
    induction n with
    | zero => intro _ h2; omega
    | succ n ih =>
      intro h1 h2
      unfold okToP at h1
      simp only [Bool.and_eq_true] at h1
      by_cases e : k = n
      · subst e; exact ⟨h1.2.1, h1.2.2⟩
      · exact ih h1.1 (by omega)
  unfold okP at h
  simp only [Bool.and_eq_true] at h
  exact go _ h.2 hk
theorem relTo_right (n : Nat) (l : List Ed) (ps pu qs : List Pc) (hu : okP pu = true) : ∀ k, k ≤ pu.length → relTo n l (ps ++ shiftP ps.length pu ++ qs) (ps.length + k) = relTo n l ps ps.length ++ relTo n l pu k
  | 0, _ => by
    rw [Nat.add_zero, List.append_assoc, relTo_left n l ps _ ps.length (Nat.le_refl _)]
    simp [relTo]
  | k + 1, h => by
    have ih := relTo_right n l ps pu qs hu k (by omega)
    have e : ps.length + (k + 1) = (ps.length + k) + 1 := by omega
    rw [e, relTo, ih, relTo, List.append_assoc]
    congr 2
    refine congrArg (fun z => [z]) ?_
    have e1 : pat (ps ++ shiftP ps.length pu ++ qs) (ps.length + k) = ((pat pu k).1, (pat pu k).2.1, (pat pu k).2.2.map (· + (ps.length : Int))) := by
      rw [pat_left (by simp [shiftP_len]; omega), pat_right, shiftP_at (by omega)]
    rw [e1]
    obtain ⟨h1, h2⟩ := okQ_at hu (k := k) (by omega)
    have hz : ∀ z ∈ (pat pu k).2.2, 0 ≤ z := by
      intro z hz
      have := List.all_eq_true.1 h2 z hz
      simp only [Bool.and_eq_true, decide_eq_true_eq] at this
      exact this.1
    rcases pcR_shift (n := n) (l := l) (R1 := relTo n l ps ps.length) (R2 := relTo n l pu k) (relTo_len n l ps ps.length) hz with h3 | h3
    · exact h3
    · have h4 : (pat pu k).1 = 1 := by
        rcases formOk_cases (x := (pat pu k).1) (y := (pat pu k).2.1) (ks := (pat pu k).2.2) h1 with ⟨h5, _⟩ | ⟨_, _, h6⟩ | ⟨_, _, h6⟩ | ⟨_, _, h6⟩ | ⟨_, _, h6⟩ | ⟨_, _, h6⟩
        · exact h5
        all_goals (rw [h3] at h6; simp at h6)
      unfold pcR
      dsimp only
      rw [if_pos h4, if_pos h4]
theorem twoP_len (op : Int) (pt pu : List Pc) : (twoP op pt pu).length = pt.length + pu.length + 1 := by simp [twoP, shiftP_len]; omega
theorem okP_pos {l : List Pc} (h : okP l = true) : 1 ≤ l.length := by
  unfold okP at h
  simp only [Bool.and_eq_true, decide_eq_true_eq] at h
  exact h.1.1
theorem ldR_two (n : Nat) (l : List Ed) (op : Int) (pt pu : List Pc) (hu : okP pu = true) : ldR n l (twoP op pt pu) = pcR n l (relTo n l pt pt.length ++ relTo n l pu pu.length) (op, 0, [((pt.length - 1 : Nat) : Int), ((pt.length + pu.length - 1 : Nat) : Int)]) := by
  unfold ldR
  rw [twoP_len, Nat.add_sub_cancel, relTo_last]
  have e : twoP op pt pu = pt ++ shiftP pt.length pu ++ [(op, 0, [((pt.length - 1 : Nat) : Int), ((pt.length + pu.length - 1 : Nat) : Int)])] := rfl
  have e1 : relTo n l (twoP op pt pu) (pt.length + pu.length) = relTo n l pt pt.length ++ relTo n l pu pu.length := relTo_right n l pt pu _ hu pu.length (Nat.le_refl _)
  have e2 : pat (twoP op pt pu) (pt.length + pu.length) = (op, 0, [((pt.length - 1 : Nat) : Int), ((pt.length + pu.length - 1 : Nat) : Int)]) := by
    rw [e]
    have e3 : (pt ++ shiftP pt.length pu).length = pt.length + pu.length := by simp [shiftP_len]
    rw [← e3]
    simp [pat, List.getD]
  rw [e1, e2]
theorem get_two (n : Nat) (l : List Ed) (pt pu : List Pc) (ht : okP pt = true) (hu : okP pu = true) : getR (relTo n l pt pt.length ++ relTo n l pu pu.length) ((pt.length - 1 : Nat) : Int) = ldR n l pt ∧ getR (relTo n l pt pt.length ++ relTo n l pu pu.length) ((pt.length + pu.length - 1 : Nat) : Int) = ldR n l pu := by
  have h1 := okP_pos ht
  have h2 := okP_pos hu
  have l1 := relTo_len n l pt pt.length
  constructor
  · unfold getR ldR List.getD
    rw [Int.toNat_natCast, List.getElem?_append_left (by omega)]
  · have e : ((pt.length + pu.length - 1 : Nat) : Int) = ((pu.length - 1 : Nat) : Int) + (pt.length : Int) := by omega
    rw [e, getR_shift l1 (by omega)]
    unfold getR ldR
    rw [Int.toNat_natCast]
theorem ldR_row (n : Nat) (l : List Ed) (pt pu : List Pc) (ht : okP pt = true) (hu : okP pu = true) : ldR n l (twoP 2 pt pu) = behR n (ldR n l pt) (ldR n l pu) := by
  obtain ⟨g1, g2⟩ := get_two n l pt pu ht hu
  rw [ldR_two n l 2 pt pu hu]
  show behR n (getR _ _) (getR _ _) = _
  rw [g1, g2]
theorem ldR_alt (n : Nat) (l : List Ed) (pt pu : List Pc) (ht : okP pt = true) (hu : okP pu = true) (i j : Nat) : ldR n l (twoP 3 pt pu) i j = (ldR n l pt i j || ldR n l pu i j) := by
  obtain ⟨g1, g2⟩ := get_two n l pt pu ht hu
  rw [ldR_two n l 3 pt pu hu]
  show ((noR i j || getR _ _ i j) || getR _ _ i j) = _
  rw [g1, g2]
  rfl
theorem ldR_more (n : Nat) (l : List Ed) (op : Int) (pt : List Pc) (ht : okP pt = true) : ldR n l (oneMore op pt) = pcR n l (relTo n l pt pt.length) (op, 0, [((pt.length - 1 : Nat) : Int)]) ∧ getR (relTo n l pt pt.length) ((pt.length - 1 : Nat) : Int) = ldR n l pt := by
  have h1 := okP_pos ht
  refine ⟨?_, by unfold getR ldR; rw [Int.toNat_natCast]⟩
  have e0 : (oneMore op pt).length = pt.length + 1 := by simp [oneMore]
  unfold ldR
  rw [e0, Nat.add_sub_cancel, relTo_last]
  have e1 : relTo n l (oneMore op pt) pt.length = relTo n l pt pt.length := relTo_left n l pt _ pt.length (Nat.le_refl _)
  have e2 : pat (oneMore op pt) pt.length = (op, 0, [((pt.length - 1 : Nat) : Int)]) := by simp [oneMore, pat, List.getD]
  rw [e1, e2]
theorem ldR_opt (n : Nat) (l : List Ed) (pt : List Pc) (ht : okP pt = true) : ldR n l (oneMore 6 pt) = orR (ldR n l pt) idR := by
  obtain ⟨h1, h2⟩ := ldR_more n l 6 pt ht
  rw [h1]
  show orR (getR _ _) idR = _
  rw [← h2]; rfl
theorem ldR_star (n : Nat) (l : List Ed) (pt : List Pc) (ht : okP pt = true) : ldR n l (oneMore 4 pt) = starR n (ldR n l pt) := by
  obtain ⟨h1, h2⟩ := ldR_more n l 4 pt ht
  rw [h1]
  show starR n (getR _ _) = _
  rw [← h2]; rfl
theorem ldR_plus (n : Nat) (l : List Ed) (pt : List Pc) (ht : okP pt = true) : ldR n l (oneMore 5 pt) = plusR n (ldR n l pt) := by
  obtain ⟨h1, h2⟩ := ldR_more n l 5 pt ht
  rw [h1]
  show plusR n (getR _ _) = _
  rw [← h2]; rfl

/-- the texts of a drawn path -/
def txts : List ByteArray := [⟨#[97]⟩, ⟨#[98]⟩, ⟨#[97]⟩, ⟨#[99]⟩, ⟨#[97, 98]⟩, ⟨#[97, 124, 98]⟩, ⟨#[97, 42]⟩, ⟨#[40, 97, 124, 98, 41, 42]⟩, ⟨#[97, 98, 63]⟩, ⟨#[97, 43, 98]⟩, ⟨#[40, 97, 98, 41, 43]⟩, ⟨#[40, 97, 124, 98, 99, 41, 63]⟩, ⟨#[97, 42, 98, 42]⟩, ⟨#[40, 40, 97, 124, 98, 41, 99, 41, 42]⟩]
def uts : List ByteArray := [⟨#[97]⟩, ⟨#[98]⟩, ⟨#[40, 97, 124, 98, 41]⟩, ⟨#[99, 42]⟩]
abbrev opn : ByteArray := ⟨#[40]⟩
theorem some_all : ((txts ++ uts).all fun T => (readP T).isSome && decide (T.size ≤ 20)) = true := by decide +kernel
theorem txt_some {T : ByteArray} (h : T ∈ txts ++ uts) : readP T = some ((readP T).getD []) ∧ okP ((readP T).getD []) = true ∧ T.size ≤ 20 := by
  have := List.all_eq_true.1 some_all T h
  simp only [Bool.and_eq_true, decide_eq_true_eq] at this
  obtain ⟨x, hx⟩ := Option.isSome_iff_exists.1 this.1
  rw [hx]
  exact ⟨rfl, (readP_ok hx).1, this.2⟩
theorem txt_all : (txts.all fun T => decide (readP (opn ++ T ++ ⟨#[41, 63]⟩) = some (oneMore 6 ((readP T).getD []))) && decide (readP (opn ++ T ++ ⟨#[41, 42]⟩) = some (oneMore 4 ((readP T).getD []))) && decide (readP (opn ++ T ++ ⟨#[41, 43]⟩) = some (oneMore 5 ((readP T).getD [])))) = true := by decide +kernel
theorem txt_more {T : ByteArray} (h : T ∈ txts) : readP (opn ++ T ++ ⟨#[41, 63]⟩) = some (oneMore 6 ((readP T).getD [])) ∧ readP (opn ++ T ++ ⟨#[41, 42]⟩) = some (oneMore 4 ((readP T).getD [])) ∧ readP (opn ++ T ++ ⟨#[41, 43]⟩) = some (oneMore 5 ((readP T).getD [])) := by
  have := List.all_eq_true.1 txt_all T h
  simp only [Bool.and_eq_true, decide_eq_true_eq] at this
  exact ⟨this.1.1, this.1.2, this.2⟩
theorem two_all : (txts.all fun T => uts.all fun U => decide (readP (opn ++ T ++ ⟨#[41]⟩ ++ U) = some (twoP 2 ((readP T).getD []) ((readP U).getD []))) && decide (readP (opn ++ T ++ ⟨#[41, 124]⟩ ++ U) = some (twoP 3 ((readP T).getD []) ((readP U).getD [])))) = true := by decide +kernel
theorem txt_two {T U : ByteArray} (h : T ∈ txts) (h2 : U ∈ uts) : readP (opn ++ T ++ ⟨#[41]⟩ ++ U) = some (twoP 2 ((readP T).getD []) ((readP U).getD [])) ∧ readP (opn ++ T ++ ⟨#[41, 124]⟩ ++ U) = some (twoP 3 ((readP T).getD []) ((readP U).getD [])) := by
  have := List.all_eq_true.1 (List.all_eq_true.1 two_all T h) U h2
  simp only [Bool.and_eq_true, decide_eq_true_eq] at this
  exact this
end Go.Proofs.Ytdbogikcmfnpdaa

/-
  What drawn laws over paths share: a drawn text of a path; whether a list has a number; where a text's path leads.
-/
namespace Go.Proofs.Ytdbogikcmfnpdaa
open Go.RowKit

set_option maxHeartbeats 1000000 in
set_option maxRecDepth 100000 in
theorem in_any (lo hi : Nat) (a : Option Addr) (n cap : Nat) (l : List Int) (x : Int) (w : World) (ha : RowIn lo hi w a l) (hn : l.length = n) (hm : n ≤ 1048576) (hx : x ∈ l) :
    Calls Try.prog 12 #[.slice a n cap, .int .i64 x] w fun e w' => e = .returned (.bool true) ∧ Hid (Below w.heap.size w w') := by
  obtain ⟨j, hj, hjx⟩ := List.getElem_of_mem hx
  rcases ha with h0 | ⟨b, o, rfl, _, _, hc⟩
  · subst h0; simp at hj
  have HC : Hid (∀ i, i < l.length → w.cell? ⟨b, o + i, none⟩ = some (.int .i64 (l.getD i 0))) := fun i hi => hc i hi
  have HJ : Hid (l.getD j 0 = x) := by show _ = _; rw [← hjx]; simp [List.getD, hj]
  have HN : Hid (l.length = n) := hn
  have hj' : j < n := by omega
  clear hc hx hjx hj hn
  go_enter Try.func12, Try.ntmps12
  go_wp2
  go_loop [5] (fun i => ∃ k : Nat, i = .int .i64 k ∧ k ≤ j) (fun i => n - (intOf i).toNat)
  case atStart => exact ⟨0, rfl, by omega⟩
  case round =>
    obtain ⟨k, rfl, hk⟩ := hrel
    have hlt1 : (k : Int) < (n : Int) := by omega
    have hlt0 : (0 : Int) ≤ (k : Int) := by omega
    obtain ⟨z, HZ⟩ : ∃ z : Int, Hid (z = l.getD k 0) := ⟨_, rfl⟩
    have hcell : w.cell? ⟨b, o + k, none⟩ = some (.int .i64 z) := by rw [HZ.out]; exact HC.out k (by rw [HN.out]; omega)
    by_cases he : z = x
    · subst he
      go_wp2
      go_ret
      exact ⟨rfl, Below.refl _ _⟩
    · have hne : k < j := by
        rcases Nat.lt_or_ge k j with h | h
        · exact h
        · obtain rfl : k = j := by omega
          exact absurd (HZ.out.trans HJ.out) he
      go_wp2
      go_round
      case rel => exact ⟨k + 1, by go_num, by omega⟩
      case measure => simp [intOf]; omega
set_option maxHeartbeats 1000000 in
set_option maxRecDepth 100000 in
theorem in_no (lo hi : Nat) (a : Option Addr) (n cap : Nat) (l : List Int) (x : Int) (w : World) (ha : RowIn lo hi w a l) (hn : l.length = n) (hm : n ≤ 1048576) (hx : ¬ x ∈ l) :
    Calls Try.prog 12 #[.slice a n cap, .int .i64 x] w fun e w' => e = .returned (.bool false) ∧ Hid (Below w.heap.size w w') := by
  have HA : Hid (RowIn lo hi w a l) := ha
  have HX : Hid (∀ i, i < l.length → l.getD i 0 ≠ x) := fun i hi e => hx (by rw [← e]; simp [List.getD, hi])
  have HN : Hid (l.length = n) := hn
  clear ha hx hn
  go_enter Try.func12, Try.ntmps12
  go_wp2
  go_loop [5] (fun i => ∃ k : Nat, i = .int .i64 k ∧ k ≤ n) (fun i => n - (intOf i).toNat)
  case atStart => exact ⟨0, rfl, by omega⟩
  case round =>
    obtain ⟨k, rfl, hk⟩ := hrel
    by_cases hlt : k < n
    · have hlt1 : (k : Int) < (n : Int) := by omega
      have hlt0 : (0 : Int) ≤ (k : Int) := by omega
      obtain ⟨z, HZ⟩ : ∃ z : Int, Hid (z = l.getD k 0) := ⟨_, rfl⟩
      have he : ¬ z = x := by rw [HZ.out]; exact HX.out k (by rw [HN.out]; exact hlt)
      rcases HA.out with h0 | ⟨b, o, rfl, _, _, hc⟩
      · have := HN.out; rw [h0] at this; simp at this; omega
      have hcell : w.cell? ⟨b, o + k, none⟩ = some (.int .i64 z) := by rw [HZ.out]; exact hc k (by rw [HN.out]; exact hlt)
      clear hc
      go_wp2
      go_round
      case rel => exact ⟨k + 1, by go_num, by omega⟩
      case measure => simp [intOf]; omega
    · have hlt1 : ¬ (k : Int) < (n : Int) := by omega
      go_wp2
      go_ret
      exact ⟨rfl, Below.refl _ _⟩
theorem in_q (lo hi : Nat) (a : Option Addr) (n cap : Nat) (l : List Int) (x : Int) (q : Bool) (w : World) (ha : RowIn lo hi w a l) (hn : l.length = n) (hm : n ≤ 1048576) (hq : q = decide (x ∈ l)) :
    Calls Try.prog 12 #[.slice a n cap, .int .i64 x] w fun e w' => e = .returned (.bool q) ∧ Hid (Below w.heap.size w w') := by
  by_cases h : x ∈ l
  · rw [hq, decide_eq_true h]; exact in_any lo hi a n cap l x w ha hn hm h
  · rw [hq, decide_eq_false h]; exact in_no lo hi a n cap l x w ha hn hm h

set_option maxHeartbeats 1000000 in
theorem pick_any (p n cap : Nat) (ao : Option Addr) (g m c : Nat) (ls : List ByteArray) (w : World) (hc : CurL p ao n cap w) (hg : g ≠ p) (hgl : g < w.heap.size) (hls : ls.length = m) (hm : 0 < m) (hm2 : m ≤ 1000) (hcell : ∀ i, i < m → w.cell? ⟨g, i, none⟩ = some (.string (ls.getD i ByteArray.empty))) :
    Calls Try.prog 59 #[.pointer (some ⟨p, 0, none⟩), .slice (some ⟨g, 0, none⟩) m c] w fun e w' => ∃ T : ByteArray, e = .returned (.string T) ∧ Hid (T ∈ ls) ∧ Hid (CurL p ao n cap w') ∧ Hid (KeptBut p w w') := by
  have HC : Hid (CurL p ao n cap w) := hc
  have HL : Hid (ls.length = m) := hls
  have HCL : Hid (∀ i, i < m → w.cell? ⟨g, i, none⟩ = some (.string (ls.getD i ByteArray.empty))) := hcell
  clear hc hls hcell
  go_enter Try.func59, Try.ntmps59
  go_wp2_with fail
  refine (HC.out.draw (m : Int) (by omega) (by omega)).mono ?_
  rintro e w1 ⟨x, rfl, hx0, hx1, HC1, HK1⟩
  obtain ⟨i, rfl⟩ : ∃ i : Nat, x = (i : Int) := ⟨x.toNat, by omega⟩
  have him : i < m := by omega
  have hcl := HK1.out.toP.cell (HCL.out i him) hgl hg
  obtain ⟨T, HT⟩ : ∃ T, Hid (T = ls.getD i ByteArray.empty) := ⟨_, rfl⟩
  rw [← HT.out] at hcl
  have HTM : Hid (T ∈ ls) := by show _ ∈ _; rw [HT.out]; simp [List.getD, show i < ls.length by rw [HL.out]; exact him]
  go_wp2
  go_ret
  exact ⟨T, rfl, HTM, HC1, HK1⟩

set_option maxHeartbeats 1000000 in
set_option maxRecDepth 100000 in
theorem l06Text_any (p n cap : Nat) (ao : Option Addr) (w : World) (hc : CurL p ao n cap w) :
    Calls Try.prog 36 #[.pointer (some ⟨p, 0, none⟩)] w fun e w' => ∃ T : ByteArray, e = .returned (.string T) ∧ Hid (T ∈ txts) ∧ Hid (CurL p ao n cap w') ∧ Hid (KeptBut p w w') := by
  have HC : Hid (CurL p ao n cap w) := hc
  have hp := hc.lt
  clear hc
  obtain ⟨W, HW⟩ : ∃ W, Hid (W = w.alloc (.cells (txts.map Value.string).toArray 9)) := ⟨_, rfl⟩
  have HBW : Hid (Below w.heap.size w W) := by rw [HW.out]; exact below1 _ _
  have HCW : Hid (CurL p ao n cap W) := by rw [HW.out]; exact HC.out.below ((Below.refl w.heap.size w).alloc (Nat.le_refl _) _) hp
  have hsz : W.heap.size = w.heap.size + 1 := by rw [HW.out]; simp
  have HCL : Hid (∀ i, i < 14 → W.cell? ⟨w.heap.size, i, none⟩ = some (.string (txts.getD i ByteArray.empty))) := by
    intro i hi
    rw [HW.out, cell_of_row _ w.heap.size i (txts.map Value.string).toArray 9 (0, 0) (heap_alloc_new w _)]
    have : i < txts.length := hi
    simp [List.getD, this]
  go_enter Try.func36, Try.ntmps36
  go_wp2_with fail
  have HE : Hid (W = w.alloc (.cells #[.string ⟨#[97]⟩, .string ⟨#[98]⟩, .string ⟨#[97]⟩, .string ⟨#[99]⟩, .string ⟨#[97, 98]⟩, .string ⟨#[97, 124, 98]⟩, .string ⟨#[97, 42]⟩, .string ⟨#[40, 97, 124, 98, 41, 42]⟩, .string ⟨#[97, 98, 63]⟩, .string ⟨#[97, 43, 98]⟩, .string ⟨#[40, 97, 98, 41, 43]⟩, .string ⟨#[40, 97, 124, 98, 99, 41, 63]⟩, .string ⟨#[97, 42, 98, 42]⟩, .string ⟨#[40, 40, 97, 124, 98, 41, 99, 41, 42]⟩] 9)) := HW.out
  rw [← HE.out]
  refine (pick_any p n cap ao w.heap.size 14 14 txts W HCW.out (by omega) (by omega) rfl (by omega) (by omega) HCL.out).mono ?_
  rintro e w1 ⟨T, rfl, HT, HC1, HK1⟩
  have HKP : Hid (KeptBut p w w1) := by
    have h1 : KeptBut p w W := (KeptBut.refl p w).below HBW.out
    exact ⟨HK1.out.os.trans h1.os, HK1.out.tape.trans h1.tape, HK1.out.output.trans h1.output, Nat.le_trans h1.size HK1.out.size, fun k hk hn => (HK1.out.block k (by omega) hn).trans (h1.block k hk hn)⟩
  clear HW HE
  go_wp2
  go_ret
  exact ⟨T, rfl, HT, HC1, HKP⟩

set_option maxHeartbeats 1000000 in
set_option maxRecDepth 100000 in
theorem drawPathText_any (ao : Option Addr) (n cap : Nat) (w : World) (hn : n ≤ 1048576) (hc : CodeIn w ao n) :
    Calls Try.prog 9 #[.slice ao n cap] w fun e w' => ∃ T : ByteArray, e = .returned (.string T) ∧ Hid (T ∈ txts) ∧ Hid (Below w.heap.size w w') := by
  have HC : Hid (CodeIn w ao n) := hc
  clear hc
  go_enter Try.func9, Try.ntmps9
  go_wp2_with fail
  refine (new_any w ao n cap hn HC.out).mono ?_
  rintro e w1 ⟨rfl, hc1, hb1⟩
  have HB1 : Hid (Below w.heap.size w w1) := hb1
  have HCU : Hid (CurL w.heap.size ao n cap w1) := ⟨hc1, cur_start HC.out⟩
  clear hc1 hb1
  go_wp2_with fail
  refine (l06Text_any w.heap.size n cap ao w1 HCU.out).mono ?_
  rintro e w2 ⟨T, rfl, HT, HC2, HK2⟩
  go_wp2
  go_ret
  exact ⟨T, rfl, HT, HB1.out.trans (HK2.out.to_below (Nat.le_refl _) HB1.out.size)⟩

set_option maxHeartbeats 2000000 in
set_option maxRecDepth 100000 in
/-- where a text's path leads from a vertex -/
theorem ends_any (lo hi : Nat) (s : Int) (a : Option Addr) (n cap : Nat) (l : List Ed) (T : ByteArray) (f : Int) (w : World) (ha : EdgesIn lo hi w a l) (hh : hi ≤ w.heap.size) (hn : l.length = n) (hm : n ≤ 1048576) (hT : T.size ≤ 1048576) :
    Calls Try.prog 11 #[gv s a n cap, .string T, .int .i64 f] w fun e w' => ∃ (a' : Option Addr) (n' c' : Nat), e = .returned (.slice a' n' c') ∧ Hid ((pEnds s l ((readP T).getD []) f).length = n') ∧ Hid (RowIn w.heap.size w'.heap.size w' a' (pEnds s l ((readP T).getD []) f)) ∧ Hid (Below w.heap.size w w') := by
  have HN : Hid (l.length = n) := hn
  have HA : Hid (EdgesIn lo hi w a l) := ha
  have HH : Hid (hi ≤ w.heap.size) := hh
  clear ha hh hn
  obtain ⟨PP, HPP⟩ : ∃ P, Hid (P = (readP T).getD []) := ⟨_, rfl⟩
  have HPB : Hid (PP.length ≤ 1048576 ∧ ∀ i, i < PP.length → (pat PP i).2.2.length ≤ 1048576) := by
    cases e : readP T with
    | none =>
      have h0 : PP = [] := by rw [HPP.out, e]; rfl
      subst h0
      exact ⟨by simp, fun i hi => absurd hi (by simp)⟩
    | some x =>
      have h0 : PP = x := by rw [HPP.out, e]; rfl
      subst h0
      obtain ⟨h1, h2⟩ := readP_ok e
      have h3 := okP_len h1
      exact ⟨by omega, fun i hi => Nat.le_trans (h2.pat hi) (by omega)⟩
  rw [← HPP.out]
  obtain ⟨B, HB⟩ : ∃ B, Hid (B = w.heap.size) := ⟨_, rfl⟩
  obtain ⟨W, HW⟩ : ∃ W, Hid (W = w.alloc (.cells #[.int .i64 s, .slice a n cap] 26)) := ⟨_, rfl⟩
  have HBW : Hid (Below w.heap.size w W) := by rw [HW.out]; exact below1 _ _
  have HG : Hid (Blk W B 2 (fun i => if i = 0 then .int .i64 s else .slice a n cap)) := by rw [HW.out]; exact blk_two w B HB.out _ _ _
  go_enter Try.func11, Try.ntmps11
  go_upto_region 1 with fail
  rw [← HB.out, ← HW.out]
  clear HW
  go_wp2_with fail
  refine (specRead_any T W (by omega)).mono ?_
  rintro e w1 ⟨a1, n1, c1, r1, rfl, HR1, HN1, HO1, HB1⟩
  rw [← HPP.out] at HN1 HO1
  have HG1 : Hid (Blk w1 B 2 (fun i => if i = 0 then .int .i64 s else .slice a n cap)) := HG.out.of_block (HB1.out.block _ HG.out.lt)
  obtain ⟨W2, HW2⟩ : ∃ W2, Hid (W2 = w1.alloc (.cells #[.slice a1 n1 c1] 36)) := ⟨_, rfl⟩
  have HBW2 : Hid (Below w1.heap.size w1 W2) := by rw [HW2.out]; exact below1 _ _
  have HBE2 : Hid (Below w.heap.size w W2) := (HBW.out.trans (HB1.out.mono HBW.out.size)).trans (HBW2.out.mono (Nat.le_trans HBW.out.size HB1.out.size))
  have HG2 : Hid (Blk W2 B 2 (fun i => if i = 0 then .int .i64 s else .slice a n cap)) := HG1.out.of_block (HBW2.out.block _ HG1.out.lt)
  have HX2 : Hid (Blk W2 w1.heap.size 1 (fun _ => .slice a1 n1 c1)) := by rw [HW2.out]; exact blk_one w1 _ rfl _ _
  have HPI : Hid (PathIn W.heap.size w1.heap.size W2 a1 PP) := HO1.out.toIn.below HBW2.out (Nat.le_refl _)
  unfold pv
  go_upto_region 2 with fail
  rw [← HW2.out]
  clear HW2
  obtain ⟨g0, g1⟩ := blk_pair_cells HG2.out
  have x0 := HX2.out.cell (i := 0) (by omega)
  go_wp2_with fail
  refine (pathEnds_any lo hi s a n cap l W.heap.size w1.heap.size a1 n1 c1 PP f W2 (HA.out.below HBE2.out HH.out) (Nat.le_trans HH.out HBE2.out.size) HN.out hm HPI.out HBW2.out.size HN1.out (by rw [← HN1.out]; exact HPB.out.1) (by rw [← HN1.out]; exact HPB.out.2)).mono ?_
  rintro e w3 ⟨a3, n3, c3, rfl, HL3, HR3, HB3⟩
  go_wp2
  go_ret
  exact ⟨a3, n3, c3, rfl, HL3, HR3.out.toIn.wide HBE2.out.size (Nat.le_refl _), HBE2.out.trans (HB3.out.mono HBE2.out.size)⟩
end Go.Proofs.Ytdbogikcmfnpdaa

/-
  impl.ReadPath.
-/
namespace Go.Proofs.Ytdbogikcmfnpdaa
open Go.RowKit

set_option maxHeartbeats 2000000 in
set_option maxRecDepth 100000 in
theorem readPath_any (s : ByteArray) (w : World) (hs : s.size ≤ 9223372036854775807) :
    Calls Try.prog 13 #[.string s] w fun e w' => RPost (readP s) w e w' := by
  by_cases h20 : 20 < s.size
  · have hd : (20 : Int) < (s.size : Int) := by omega
    have HN : Hid (readP s = none) := readP_size h20
    obtain ⟨W, HW⟩ : ∃ W, Hid (W = w.alloc (.cells #[.slice none 0 0] 36)) := ⟨_, rfl⟩
    have HBW : Hid (Below w.heap.size w W) := by rw [HW.out]; exact below1 _ _
    have c2 : W.cell? ⟨w.heap.size, 0, none⟩ = some (.slice none 0 0) := by rw [HW.out]; exact (blk_one w w.heap.size rfl _ _).cell (i := 0) (by omega)
    go_enter Try.func13, Try.ntmps13
    go_wp2
    rw [← HW.out]
    refine bodyPost_ret (v := .tuple #[.agg #[.slice none 0 0], .bool false]) (by simp [results, Try.results13, go_sem, c2]) rfl ?_
    rw [HN.out]
    exact ⟨none, 0, 0, false, rfl, rfl, rfl, .inl rfl, HBW⟩
  · have hd : ¬ (20 : Int) < (s.size : Int) := by omega
    obtain ⟨E, HE⟩ : ∃ E, Hid (E = w.heap.size) := ⟨_, rfl⟩
    obtain ⟨W, HW⟩ : ∃ W, Hid (W = (w.alloc (.cells #[.slice none 0 0] 36)).alloc (.cells #[.string s, .int .i64 0, .slice none 0 0, .bool false] 70)) := ⟨_, rfl⟩
    have HBW : Hid (Below w.heap.size w W) := by rw [HW.out]; exact below2 w _ _
    have HSW : Hid (W.heap.size = E + 2) := by rw [HW.out, HE.out]; show _ = _; simp
    have HK2 : Hid (Blk W E 1 (fun _ => .slice none 0 0)) := by rw [HW.out]; exact (blk_one w E HE.out _ _).alloc _
    have HR0 : Hid (RI (E + 2) (E + 1) s W 0 [] false (fun _ => False)) := by
      refine ⟨.slice none 0 0, ?_, LaidO.nil _ _, fun h => h⟩
      rw [HW.out]
      have e : E + 1 = (w.alloc (.cells #[.slice none 0 0] 36)).heap.size := by rw [HE.out]; simp
      rw [e]
      exact blk_new _ #[.string s, .int .i64 0, .slice none 0 0, .bool false] _ _ (fun i hi => by
        have hi2 : i < 4 := hi
        rcases (show i = 0 ∨ i = 1 ∨ i = 2 ∨ i = 3 by omega) with rfl | rfl | rfl | rfl <;> rfl)
    obtain ⟨P, HP⟩ : ∃ P, Hid (P = altP (bt s) s.size (s.size + 1) 0 []) := ⟨_, rfl⟩
    have HC := altOK s (by omega) s.size (E + 2) (E + 1) 0 [] false (fun _ => False) W HR0.out (by rw [HSW.out]; exact Nat.le_refl _) (by simp; omega) (Nat.zero_le _) (by omega)
    rw [← HP.out] at HC
    obtain ⟨Z, HZ⟩ : ∃ Z, Hid (Z = readP s) := ⟨_, rfl⟩
    have HN1 : Hid (P = none → Z = none) := fun h => by rw [HZ.out]; exact readP_none h20 HP.out h
    have HN2 : Hid (∀ a l k, P = some (a, l, k) → Z = if a < s.size then none else if okP l = true then some l else none) := fun a l k h => by rw [HZ.out]; exact readP_some h20 HP.out h
    rw [← HZ.out]
    go_enter Try.func13, Try.ntmps13
    go_upto_region 4 with fail
    rw [← HE.out, ← HW.out]
    clear HW
    go_wp2_with fail
    refine HC.mono ?_
    rintro e w1 ⟨k, a1, l1, f1, U1, rfl, HR1, HU1, HF1, HB1⟩
    clear HC
    have hb1 := HB1.out.1
    have hb2 := HB1.out.2.1
    have hb3 := HB1.out.2.2
    simp only [List.length_nil, Nat.zero_add, Nat.sub_zero] at hb2 hb3
    have HBX1 : Hid (Below E W w1) := HU1.out.1.to_below (by rw [HSW.out]; omega) (fun c hc => (show c = E + 1 ∨ False from hc).elim (fun h => by omega) (fun h => h.elim))
    have HBX1' : Hid (Below (E + 1) W w1) := HU1.out.1.to_below (by rw [HSW.out]; omega) (fun c hc => (show c = E + 1 ∨ False from hc).elim (fun h => by omega) (fun h => h.elim))
    have HBE1 : Hid (Below w.heap.size w w1) := HBW.out.trans (HBX1.out.mono (by rw [HE.out]; exact Nat.le_refl _))
    obtain ⟨v, hbl, hla, hup⟩ := HR1.out
    obtain ⟨a9, cap9, rfl, hpo⟩ := hla.toOwn
    have HPO : Hid (PathOwn (E + 2) w1.heap.size w1 a9 l1) := hpo
    obtain ⟨n9, HN9⟩ : ∃ n, Hid (l1.length = n) := ⟨_, rfl⟩
    rw [HN9.out] at hbl hb3
    have r0 : w1.cell? ⟨E + 1, 0, none⟩ = some (.string s) := hbl.cell (i := 0) (by omega)
    have r1 : w1.cell? ⟨E + 1, 1, none⟩ = some (.int .i64 (a1 : Int)) := hbl.cell (i := 1) (by omega)
    have r2 : w1.cell? ⟨E + 1, 2, none⟩ = some (.slice a9 n9 cap9) := hbl.cell (i := 2) (by omega)
    have r3 : w1.cell? ⟨E + 1, 3, none⟩ = some (.bool f1) := hbl.cell (i := 3) (by omega)
    have HBL : Hid (Blk w1 (E + 1) 4 (rcI s a1 (.slice a9 n9 cap9) f1)) := hbl
    have HK21 : Hid (Blk w1 E 1 (fun _ => .slice none 0 0)) := HK2.out.of_block (HBX1'.out.block E (by omega))
    have hsz1 := HBX1.out.size
    have hS := HSW.out
    clear hbl hla hup hpo
    obtain ⟨W2, HW2⟩ : ∃ W2, Hid (W2 = w1.alloc (.cells #[.slice a9 n9 cap9] 36)) := ⟨_, rfl⟩
    have HBW2 : Hid (Below w1.heap.size w1 W2) := by rw [HW2.out]; exact below1 _ _
    have HBE2 : Hid (Below w.heap.size w W2) := HBE1.out.trans (HBW2.out.mono HBE1.out.size)
    have HK22 : Hid (Blk W2 E 1 (fun _ => .slice none 0 0)) := HK21.out.of_block (HBW2.out.block _ HK21.out.lt)
    have HBX : Hid (Blk W2 w1.heap.size 1 (fun _ => .slice a9 n9 cap9)) := by rw [HW2.out]; exact blk_one w1 _ rfl _ _
    have HPO2 : Hid (PathOwn (E + 2) w1.heap.size W2 a9 l1) := HPO.out.below HBW2.out (Nat.le_refl _)
    have HBL2 : Hid (Blk W2 (E + 1) 4 (rcI s a1 (.slice a9 n9 cap9) f1)) := HBL.out.of_block (HBW2.out.block _ HBL.out.lt)
    have HNO : Hid (∀ wx, Below w.heap.size w wx → Z = none → RPost Z w (.returned (.tuple #[.agg #[.slice none 0 0], .bool false])) wx) := by
      intro wx h1 h2
      rw [h2]
      exact ⟨none, 0, 0, false, rfl, rfl, rfl, .inl rfl, h1⟩
    go_upto_region 6 with fail
    rw [← HW2.out]
    clear r0 r1 r2 r3 HW2
    have r1 : W2.cell? ⟨E + 1, 1, none⟩ = some (.int .i64 (a1 : Int)) := HBL2.out.cell (i := 1) (by omega)
    have r3 : W2.cell? ⟨E + 1, 3, none⟩ = some (.bool f1) := HBL2.out.cell (i := 3) (by omega)
    have c2 := HK22.out.cell (i := 0) (by omega)
    have z2 := HK22.out.frozen 0
    have x0 := HBX.out.cell (i := 0) (by omega)
    have HSETN : Hid (∀ wx, Blk wx E 1 (fun _ => .slice none 0 0) → Blk (wx.setCell ⟨E, 0, none⟩ (.slice none 0 0)) E 1 (fun _ => .slice none 0 0)) := fun wx h => (h.set 0 (by omega) _).congr (fun i hi => by
      obtain rfl : i = 0 := by omega
      simp)
    rcases Bool.eq_false_or_eq_true f1 with hf | hf
    · subst hf
      have HZN : Hid (Z = none) := by
        rcases HF1.out with ⟨_, h | h⟩ | ⟨_, h, _⟩
        · cases h
        · exact HN1.out h
        · cases h
      have k2 := (HSETN.out _ HK22.out).cell (i := 0) (by omega)
      go_wp2
      refine bodyPost_ret (v := .tuple #[.agg #[.slice none 0 0], .bool false]) (by simp [results, Try.results13, go_sem, k2]) rfl ?_
      exact HNO.out _ (HBE2.out.setCell (by rw [HE.out]; exact Nat.le_refl _) _) HZN.out
    · subst hf
      have HZX : Hid (Z = if a1 < s.size then none else if okP l1 = true then some l1 else none) := by
        rcases HF1.out with ⟨h, _⟩ | ⟨_, _, h3⟩
        · cases h
        · exact HN2.out _ _ _ h3
      by_cases hlt : a1 < s.size
      · have hl1 : (a1 : Int) < (s.size : Int) := by omega
        have HZN : Hid (Z = none) := by show _ = _; rw [HZX.out, if_pos hlt]
        have k2 := (HSETN.out _ HK22.out).cell (i := 0) (by omega)
        go_wp2
        refine bodyPost_ret (v := .tuple #[.agg #[.slice none 0 0], .bool false]) (by simp [results, Try.results13, go_sem, k2]) rfl ?_
        exact HNO.out _ (HBE2.out.setCell (by rw [HE.out]; exact Nat.le_refl _) _) HZN.out
      · have hl1 : ¬ (a1 : Int) < (s.size : Int) := by omega
        obtain ⟨R, HRO⟩ : ∃ r, Hid (r = okP l1) := ⟨_, rfl⟩
        rw [if_neg hlt, ← HRO.out] at HZX
        have hn9 : n9 ≤ 1048576 := by omega
        have HKL : Hid (∀ i, i < n9 → (pat l1 i).2.2.length ≤ 1048576) := by
          have h3 : P = some (a1, l1, k) := by
            rcases HF1.out with ⟨h, _⟩ | ⟨_, _, h⟩
            · cases h
            · exact h
          rw [HP.out] at h3
          have hkb := altP_kb (by omega) _ _ _ _ KB.nil h3
          intro i hi
          exact Nat.le_trans (hkb.pat (by rw [HN9.out]; exact hi)) (by omega)
        go_wp2_with fail
        refine (pathOk_any (E + 2) w1.heap.size a9 n9 cap9 l1 R W2 HPO2.out.toIn HBW2.out.size HN9.out hn9 HKL.out HRO.out).mono ?_
        rintro e w3 ⟨rfl, HB3⟩
        have HBE3 : Hid (Below w.heap.size w w3) := HBE2.out.trans (HB3.out.mono HBE2.out.size)
        have HK23 : Hid (Blk w3 E 1 (fun _ => .slice none 0 0)) := HK22.out.of_block (HB3.out.block _ HK22.out.lt)
        have HX3 : Hid (Blk w3 w1.heap.size 1 (fun _ => .slice a9 n9 cap9)) := HBX.out.of_block (HB3.out.block _ HBX.out.lt)
        have HPO3 : Hid (PathOwn (E + 2) w1.heap.size w3 a9 l1) := HPO2.out.below HB3.out HBW2.out.size
        clear c2 z2 x0 r1 r3
        have c2 := HK23.out.cell (i := 0) (by omega)
        have z2 := HK23.out.frozen 0
        have x0 := HX3.out.cell (i := 0) (by omega)
        rcases Bool.eq_false_or_eq_true R with hR | hR
        · subst hR
          have HZS : Hid (Z = some l1) := by show _ = _; rw [HZX.out]; rfl
          have k2 : (w3.setCell ⟨E, 0, none⟩ (.slice a9 n9 cap9)).cell? ⟨E, 0, none⟩ = some (.slice a9 n9 cap9) := (HK23.out.set 0 (by omega) (.slice a9 n9 cap9)).cell (i := 0) (by omega)
          go_wp2
          refine bodyPost_ret (v := .tuple #[.agg #[.slice a9 n9 cap9], .bool true]) (by simp [results, Try.results13, go_sem, k2]) rfl ?_
          rw [HZS.out]
          refine ⟨a9, n9, cap9, true, rfl, rfl, HN9, ?_, HBE3.out.setCell (by rw [HE.out]; exact Nat.le_refl _) _⟩
          exact (HPO3.out.setCell (by omega) _).wide (by have := HE.out; omega) (by have := HB3.out.size; have := HBW2.out.size; simp; omega)
        · subst hR
          have HZN : Hid (Z = none) := by show _ = _; rw [HZX.out]; rfl
          have k2 := (HSETN.out _ HK23.out).cell (i := 0) (by omega)
          go_wp2
          refine bodyPost_ret (v := .tuple #[.agg #[.slice none 0 0], .bool false]) (by simp [results, Try.results13, go_sem, k2]) rfl ?_
          exact HNO.out _ (HBE3.out.setCell (by rw [HE.out]; exact Nat.le_refl _) _) HZN.out
end Go.Proofs.Ytdbogikcmfnpdaa

/-
  Ends of paths that are made of two, or of one, in the words of the drawn laws.
-/
namespace Go.Proofs.Ytdbogikcmfnpdaa
open Go.RowKit

theorem mem_ends {n : Nat} {R : Rl} {i x : Nat} (hx : x < n) : decide ((x : Int) ∈ endsL n R i) = R i x := by
  rw [Bool.eq_iff_iff, decide_eq_true_eq]
  unfold endsL
  simp only [List.mem_map, List.mem_filter, List.mem_range]
  constructor
  · rintro ⟨j, ⟨_, h1⟩, h2⟩
    obtain rfl : j = x := by omega
    exact h1
  · intro h; exact ⟨x, ⟨hx, h⟩, rfl⟩
theorem ends_in {n : Nat} {R : Rl} {i : Nat} {z : Int} (h : z ∈ endsL n R i) : ∃ j : Nat, z = (j : Int) ∧ j < n ∧ R i j = true := by
  unfold endsL at h
  simp only [List.mem_map, List.mem_filter, List.mem_range] at h
  obtain ⟨j, ⟨h1, h2⟩, h3⟩ := h
  exact ⟨j, h3.symm, h1, h2⟩
/-- whether one of the first k ends leads on -/
def someTo (l : List Int) (R : Rl) (x k : Nat) : Bool := (l.take k).any fun z => R z.toNat x
theorem someTo_succ {l : List Int} {R : Rl} {x k : Nat} (h : k < l.length) : someTo l R x (k + 1) = (someTo l R x k || R (l.getD k 0).toNat x) := by
  unfold someTo
  rw [List.take_succ_eq_append_getElem h, List.any_append]
  simp [List.getD, h]
theorem someTo_all {n : Nat} {A B : Rl} {v x : Nat} : someTo (endsL n A v) B x (endsL n A v).length = behR n A B v x := by
  unfold someTo
  rw [List.take_length, Bool.eq_iff_iff, List.any_eq_true, behR_iff]
  constructor
  · rintro ⟨z, hz, h1⟩
    obtain ⟨j, rfl, hj, h2⟩ := ends_in hz
    exact ⟨j, hj, h2, by simpa using h1⟩
  · rintro ⟨j, hj, h1, h2⟩
    have hm : decide ((j : Int) ∈ endsL n A v) = true := by rw [mem_ends hj]; exact h1
    exact ⟨(j : Int), by simpa using hm, by simpa using h2⟩
theorem pEnds_is {n : Nat} {l : List Ed} {ps : List Pc} {v : Nat} (hg : okG (n : Int) l = true) (hp : okP ps = true) (hv : v < n) : pEnds (n : Int) l ps (v : Int) = endsL n (ldR n l ps) v := by
  have h1 : inV (n : Int) (v : Int) = true := by unfold inV; simp; omega
  unfold pEnds
  rw [hg, hp, h1]
  rfl
theorem twoP_ok {T U : ByteArray} (hT : T ∈ txts) (hU : U ∈ uts) : okP (twoP 2 ((readP T).getD []) ((readP U).getD [])) = true ∧ okP (twoP 3 ((readP T).getD []) ((readP U).getD [])) = true :=
  ⟨(readP_ok (txt_two hT hU).1).1, (readP_ok (txt_two hT hU).2).1⟩
theorem more_ok {T : ByteArray} (hT : T ∈ txts) : okP (oneMore 6 ((readP T).getD [])) = true ∧ okP (oneMore 4 ((readP T).getD [])) = true ∧ okP (oneMore 5 ((readP T).getD [])) = true :=
  ⟨(readP_ok (txt_more hT).1).1, (readP_ok (txt_more hT).2.1).1, (readP_ok (txt_more hT).2.2).1⟩
theorem star_step {n : Nat} {K : Rl} {v x : Nat} (hx : x < n) : starR n K v x = (decide (x = v) || plusR n K v x) := by
  unfold starR orR idR
  by_cases e : v = x
  · subst e; simp
  · simp [e, Ne.symm e]
theorem two_size_all : (txts.all fun T => uts.all fun U => decide ((opn ++ T ++ ⟨#[41]⟩ ++ U).size ≤ 100) && decide ((opn ++ T ++ ⟨#[41, 124]⟩ ++ U).size ≤ 100)) = true := by decide +kernel
theorem more_size_all : (txts.all fun T => decide ((opn ++ T ++ ⟨#[41, 63]⟩).size ≤ 100) && decide ((opn ++ T ++ ⟨#[41, 42]⟩).size ≤ 100) && decide ((opn ++ T ++ ⟨#[41, 43]⟩).size ≤ 100)) = true := by decide +kernel
theorem row_text {T U : ByteArray} (hT : T ∈ txts) (hU : U ∈ uts) : ∃ X, Hid (X = opn ++ T ++ ⟨#[41]⟩ ++ U) ∧ Hid (readP X = some (twoP 2 ((readP T).getD []) ((readP U).getD []))) ∧ X.size ≤ 100 := by
  refine ⟨_, rfl, (txt_two hT hU).1, ?_⟩
  have := List.all_eq_true.1 (List.all_eq_true.1 two_size_all T hT) U hU
  simp only [Bool.and_eq_true, decide_eq_true_eq] at this
  exact this.1
theorem alt_text {T U : ByteArray} (hT : T ∈ txts) (hU : U ∈ uts) : ∃ X, Hid (X = opn ++ T ++ ⟨#[41, 124]⟩ ++ U) ∧ Hid (readP X = some (twoP 3 ((readP T).getD []) ((readP U).getD []))) ∧ X.size ≤ 100 := by
  refine ⟨_, rfl, (txt_two hT hU).2, ?_⟩
  have := List.all_eq_true.1 (List.all_eq_true.1 two_size_all T hT) U hU
  simp only [Bool.and_eq_true, decide_eq_true_eq] at this
  exact this.2
theorem opt_text {T : ByteArray} (hT : T ∈ txts) : ∃ X, Hid (X = opn ++ T ++ ⟨#[41, 63]⟩) ∧ Hid (readP X = some (oneMore 6 ((readP T).getD []))) ∧ X.size ≤ 100 := by
  refine ⟨_, rfl, (txt_more hT).1, ?_⟩
  have := List.all_eq_true.1 more_size_all T hT
  simp only [Bool.and_eq_true, decide_eq_true_eq] at this
  exact this.1.1
theorem star_text {T : ByteArray} (hT : T ∈ txts) : ∃ X, Hid (X = opn ++ T ++ ⟨#[41, 42]⟩) ∧ Hid (readP X = some (oneMore 4 ((readP T).getD []))) ∧ X.size ≤ 100 := by
  refine ⟨_, rfl, (txt_more hT).2.1, ?_⟩
  have := List.all_eq_true.1 more_size_all T hT
  simp only [Bool.and_eq_true, decide_eq_true_eq] at this
  exact this.1.2
theorem plus_text {T : ByteArray} (hT : T ∈ txts) : ∃ X, Hid (X = opn ++ T ++ ⟨#[41, 43]⟩) ∧ Hid (readP X = some (oneMore 5 ((readP T).getD []))) ∧ X.size ≤ 100 := by
  refine ⟨_, rfl, (txt_more hT).2.2, ?_⟩
  have := List.all_eq_true.1 more_size_all T hT
  simp only [Bool.and_eq_true, decide_eq_true_eq] at this
  exact this.2
theorem tsize {T : ByteArray} (h : T ∈ txts) : T.size ≤ 20 := (txt_some (List.mem_append_left _ h)).2.2
theorem usize {U : ByteArray} (h : U ∈ uts) : U.size ≤ 20 := (txt_some (List.mem_append_right _ h)).2.2
end Go.Proofs.Ytdbogikcmfnpdaa

/-
  The walk of FnPathEnds.
-/
namespace Go.Proofs.Ytdbogikcmfnpdaa
open Go.RowKit

set_option maxHeartbeats 6000000 in
set_option maxRecDepth 100000 in
theorem law_3 (a0 : Option Addr) (n0 cap0 : Nat) (w : World) (hc0 : CodeIn w a0 n0) :
    Calls Try.prog 3 #[.slice a0 n0 cap0] w fun e w' => e = .returned (.bool true) ∧ Below w.heap.size w w' := by
  by_cases hbig : (1048576 : Int) < (n0 : Int)
  · clear hc0
    go_enter Try.func3, Try.ntmps3
    go_wp2_with fail
    refine (big_yes a0 n0 cap0 w hbig).mono ?_
    rintro e w1 ⟨rfl, rfl⟩
    go_wp2
    go_ret
    exact ⟨rfl, Below.refl _ _⟩
  have hn : n0 ≤ 1048576 := by omega
  have HC : Hid (CodeIn w a0 n0) := hc0
  clear hc0 hbig
  go_enter Try.func3, Try.ntmps3
  go_wp2_with fail
  refine (big_no a0 n0 cap0 w hn).mono ?_
  rintro e w0 ⟨rfl, rfl⟩
  go_wp2_with fail
  refine (drawGraph_any w n0 cap0 a0 hn HC.out).mono ?_
  rintro e w1 ⟨s, a, n, c, L, rfl, HLN, HE1, HGD, HB1⟩
  obtain ⟨P3, HP3⟩ : ∃ P3, Hid (w1.heap.size = P3) := ⟨_, rfl⟩
  have HN10 : Hid (n ≤ 1048576) := by show n ≤ _; have := HGD.out.1.2.1; have := HLN.out; omega
  obtain ⟨HOL, hs2, hs5⟩ : Hid (okG s L = true) ∧ 2 ≤ s ∧ s ≤ 5 := ⟨HGD.out.1.1, HGD.out.2.1, HGD.out.2.2⟩
  obtain ⟨NN, rfl⟩ : ∃ NN : Nat, s = (NN : Int) := ⟨s.toNat, by omega⟩
  have hN5 : NN ≤ 5 := by omega
  obtain ⟨W1, HW1⟩ : ∃ W1, Hid (W1 = w1.alloc (.cells #[.int .i64 (NN : Int), .slice a n c] 26)) := ⟨_, rfl⟩
  have HBW1 : Hid (Below w.heap.size w W1) := by rw [HW1.out]; exact HB1.out.trans ((below1 w1 _).mono HB1.out.size)
  have HG1 : Hid (Blk W1 P3 2 (fun i => if i = 0 then .int .i64 (NN : Int) else .slice a n c)) := by rw [HW1.out]; exact blk_two w1 P3 HP3.out.symm _ _ _
  have HE : Hid (EdgesIn 0 P3 W1 a L) := by rw [HW1.out, ← HP3.out]; exact (HE1.out.below (below1 w1 _) (Nat.le_refl _)).wide (Nat.zero_le _) (Nat.le_refl _)
  go_upto_region 4 with fail
  rw [HP3.out, ← HW1.out]
  clear HGD HE1 HB1 HW1 HP3
  go_wp2_with fail
  refine (drawPathText_any a0 n0 cap0 W1 hn (HC.out.below HBW1.out)).mono ?_
  rintro e w2 ⟨TT, rfl, HTT, HB2⟩
  have HBW2 : Hid (Below w.heap.size w w2) := HBW1.out.trans (HB2.out.mono HBW1.out.size)
  have HB12 : Hid (Below W1.heap.size W1 w2) := HB2
  go_wp2_with fail
  refine (drawPlaces_any a0 n0 cap0 w2 hn (HC.out.below HBW2.out)).mono ?_
  rintro e w3 ⟨gp, cg, z0, z1, z2, rfl, HZ, HZC, HB3⟩
  obtain ⟨⟨hz0, hz0'⟩, _, _⟩ := HZ.out
  have HB13 : Hid (Below W1.heap.size W1 w3) := HB12.out.trans (HB3.out.mono HB12.out.size)
  have HY0 : Hid (w3.cell? ⟨gp, 0, none⟩ = some (.int .i64 z0)) := HZC.out.1
  obtain ⟨j, hj, hj4⟩ : ∃ j : Nat, z0.tmod 4 = (j : Int) ∧ j < 4 := ⟨(z0 % 4).toNat, by rw [Int.tmod_eq_emod_of_nonneg hz0]; omega, by omega⟩
  have hj5 : (j : Int) < 4 := by omega
  have hj6 : (0 : Int) ≤ (j : Int) := by omega
  obtain ⟨UU, HUD⟩ : ∃ U, Hid (U = uts.getD j ByteArray.empty) := ⟨_, rfl⟩
  have HUU : Hid (UU ∈ uts) := by show _ ∈ _; rw [HUD.out]; simp [List.getD, show j < uts.length from hj4]
  obtain ⟨W4, HW4⟩ : ∃ W4, Hid (W4 = w3.alloc (.cells (uts.map Value.string).toArray 9)) := ⟨_, rfl⟩
  have HB34 : Hid (Below w3.heap.size w3 W4) := by rw [HW4.out]; exact below1 _ _
  have hcu : W4.cell? ⟨w3.heap.size, j, none⟩ = some (.string UU) := by
    rw [HW4.out, cell_of_row _ w3.heap.size j (uts.map Value.string).toArray 9 (0, 0) (heap_alloc_new w3 _), HUD.out]
    have : j < uts.length := hj4
    simp [List.getD, this]
  have HWE : Hid (W4 = w3.alloc (.cells #[.string ⟨#[97]⟩, .string ⟨#[98]⟩, .string ⟨#[40, 97, 124, 98, 41]⟩, .string ⟨#[99, 42]⟩] 9)) := HW4.out
  have hy0 : W4.cell? ⟨gp, 0, none⟩ = some (.int .i64 z0) := cell_below HY0.out HB34.out (lt_of_cell HY0.out)
  have HYA : Hid ((w3.alloc (.cells #[.string ⟨#[97]⟩, .string ⟨#[98]⟩, .string ⟨#[40, 97, 124, 98, 41]⟩, .string ⟨#[99, 42]⟩] 9)).cell? ⟨gp, 0, none⟩ = some (.int .i64 z0) ∧ (w3.alloc (.cells #[.string ⟨#[97]⟩, .string ⟨#[98]⟩, .string ⟨#[40, 97, 124, 98, 41]⟩, .string ⟨#[99, 42]⟩] 9)).cell? ⟨w3.heap.size, j, none⟩ = some (.string UU)) := by rw [← HWE.out]; exact ⟨hy0, hcu⟩
  have hya := HYA.out.1
  have hyb := HYA.out.2
  clear hy0 hcu
  go_upto_region 7 with fail
  rw [← HWE.out]
  clear HW4 HWE HYA hya hyb HZ HZC HUD
  have HB14 : Hid (Below W1.heap.size W1 W4) := HB13.out.trans (HB34.out.mono HB13.out.size)
  obtain ⟨PT, HPT⟩ : ∃ P, Hid (P = (readP TT).getD []) := ⟨_, rfl⟩
  have HTS := txt_some (List.mem_append_left uts HTT.out)
  have HTO : Hid (okP PT = true) := by rw [HPT.out]; exact HTS.2.1
  have HTR : Hid (readP TT = some PT) := by rw [HPT.out]; exact HTS.1
  have hTS : TT.size ≤ 20 := HTS.2.2
  clear HTS
  obtain ⟨RT, HRT⟩ : ∃ R : Rl, Hid (R = ldR NN L PT) := ⟨_, rfl⟩
  obtain ⟨PU, HPU⟩ : ∃ P, Hid (P = (readP UU).getD []) := ⟨_, rfl⟩
  have HUS := txt_some (List.mem_append_right txts HUU.out)
  have HUO : Hid (okP PU = true) := by rw [HPU.out]; exact HUS.2.1
  have HUR : Hid (readP UU = some PU) := by rw [HPU.out]; exact HUS.1
  have hUS : UU.size ≤ 20 := HUS.2.2
  clear HUS
  obtain ⟨RU, HRU⟩ : ∃ R : Rl, Hid (R = ldR NN L PU) := ⟨_, rfl⟩
  have HCT : Hid (∀ (v : Nat) w0, v < NN → Below W1.heap.size W1 w0 → Calls Try.prog 11 #[gv (NN : Int) a n c, .string (TT), .int .i64 (v : Int)] w0 fun e w' => ∃ (a' : Option Addr) (n' c' : Nat), e = .returned (.slice a' n' c') ∧ Hid ((endsL NN (RT) v).length = n') ∧ Hid (RowIn w0.heap.size w'.heap.size w' a' (endsL NN (RT) v)) ∧ Hid (Below w0.heap.size w0 w')) := by
    intro v w0 hv hb
    refine (ends_any 0 P3 (NN : Int) a n c L (TT) (v : Int) w0 (HE.out.below hb (Nat.le_of_lt HG1.out.lt)) (Nat.le_trans (Nat.le_of_lt HG1.out.lt) hb.size) HLN.out HN10.out (by omega)).mono ?_
    rintro e w' ⟨a', n', c', rfl, h1, h2, h3⟩
    have e1 : pEnds (NN : Int) L ((readP (TT)).getD []) (v : Int) = endsL NN (RT) v := by
      rw [HTR.out]
      rw [HRT.out]
      exact pEnds_is HOL.out HTO.out hv
    rw [e1] at h1 h2
    exact ⟨a', n', c', rfl, h1, h2, h3⟩
  have HCU : Hid (∀ (v : Nat) w0, v < NN → Below W1.heap.size W1 w0 → Calls Try.prog 11 #[gv (NN : Int) a n c, .string (UU), .int .i64 (v : Int)] w0 fun e w' => ∃ (a' : Option Addr) (n' c' : Nat), e = .returned (.slice a' n' c') ∧ Hid ((endsL NN (RU) v).length = n') ∧ Hid (RowIn w0.heap.size w'.heap.size w' a' (endsL NN (RU) v)) ∧ Hid (Below w0.heap.size w0 w')) := by
    intro v w0 hv hb
    refine (ends_any 0 P3 (NN : Int) a n c L (UU) (v : Int) w0 (HE.out.below hb (Nat.le_of_lt HG1.out.lt)) (Nat.le_trans (Nat.le_of_lt HG1.out.lt) hb.size) HLN.out HN10.out (by omega)).mono ?_
    rintro e w' ⟨a', n', c', rfl, h1, h2, h3⟩
    have e1 : pEnds (NN : Int) L ((readP (UU)).getD []) (v : Int) = endsL NN (RU) v := by
      rw [HUR.out]
      rw [HRU.out]
      exact pEnds_is HOL.out HUO.out hv
    rw [e1] at h1 h2
    exact ⟨a', n', c', rfl, h1, h2, h3⟩
  obtain ⟨XR, HXXR, HRXR, hsXR⟩ := row_text HTT.out HUU.out
  have HCR : Hid (∀ (v : Nat) w0, v < NN → Below W1.heap.size W1 w0 → Calls Try.prog 11 #[gv (NN : Int) a n c, .string (XR), .int .i64 (v : Int)] w0 fun e w' => ∃ (a' : Option Addr) (n' c' : Nat), e = .returned (.slice a' n' c') ∧ Hid ((endsL NN (behR NN RT RU) v).length = n') ∧ Hid (RowIn w0.heap.size w'.heap.size w' a' (endsL NN (behR NN RT RU) v)) ∧ Hid (Below w0.heap.size w0 w')) := by
    intro v w0 hv hb
    refine (ends_any 0 P3 (NN : Int) a n c L (XR) (v : Int) w0 (HE.out.below hb (Nat.le_of_lt HG1.out.lt)) (Nat.le_trans (Nat.le_of_lt HG1.out.lt) hb.size) HLN.out HN10.out (by omega)).mono ?_
    rintro e w' ⟨a', n', c', rfl, h1, h2, h3⟩
    have e1 : pEnds (NN : Int) L ((readP (XR)).getD []) (v : Int) = endsL NN (behR NN RT RU) v := by
      rw [HRXR.out, ← HPT.out, ← HPU.out]
      have h0 := (twoP_ok HTT.out HUU.out).1
      rw [← HPT.out, ← HPU.out] at h0
      show pEnds _ _ (twoP 2 PT PU) _ = _
      rw [pEnds_is HOL.out h0 hv]
      rw [ldR_row NN L PT PU HTO.out HUO.out, HRT.out, HRU.out]
    rw [e1] at h1 h2
    exact ⟨a', n', c', rfl, h1, h2, h3⟩
  obtain ⟨XA, HXXA, HRXA, hsXA⟩ := alt_text HTT.out HUU.out
  have HCA : Hid (∀ (v : Nat) w0, v < NN → Below W1.heap.size W1 w0 → Calls Try.prog 11 #[gv (NN : Int) a n c, .string (XA), .int .i64 (v : Int)] w0 fun e w' => ∃ (a' : Option Addr) (n' c' : Nat), e = .returned (.slice a' n' c') ∧ Hid ((endsL NN (orR RT RU) v).length = n') ∧ Hid (RowIn w0.heap.size w'.heap.size w' a' (endsL NN (orR RT RU) v)) ∧ Hid (Below w0.heap.size w0 w')) := by
    intro v w0 hv hb
    refine (ends_any 0 P3 (NN : Int) a n c L (XA) (v : Int) w0 (HE.out.below hb (Nat.le_of_lt HG1.out.lt)) (Nat.le_trans (Nat.le_of_lt HG1.out.lt) hb.size) HLN.out HN10.out (by omega)).mono ?_
    rintro e w' ⟨a', n', c', rfl, h1, h2, h3⟩
    have e1 : pEnds (NN : Int) L ((readP (XA)).getD []) (v : Int) = endsL NN (orR RT RU) v := by
      rw [HRXA.out, ← HPT.out, ← HPU.out]
      have h0 := (twoP_ok HTT.out HUU.out).2
      rw [← HPT.out, ← HPU.out] at h0
      show pEnds _ _ (twoP 3 PT PU) _ = _
      rw [pEnds_is HOL.out h0 hv]
      rw [HRT.out, HRU.out]
      congr 1
      funext i j
      exact ldR_alt NN L PT PU HTO.out HUO.out i j
    rw [e1] at h1 h2
    exact ⟨a', n', c', rfl, h1, h2, h3⟩
  obtain ⟨XO, HXXO, HRXO, hsXO⟩ := opt_text HTT.out
  have HCO : Hid (∀ (v : Nat) w0, v < NN → Below W1.heap.size W1 w0 → Calls Try.prog 11 #[gv (NN : Int) a n c, .string (XO), .int .i64 (v : Int)] w0 fun e w' => ∃ (a' : Option Addr) (n' c' : Nat), e = .returned (.slice a' n' c') ∧ Hid ((endsL NN (orR RT idR) v).length = n') ∧ Hid (RowIn w0.heap.size w'.heap.size w' a' (endsL NN (orR RT idR) v)) ∧ Hid (Below w0.heap.size w0 w')) := by
    intro v w0 hv hb
    refine (ends_any 0 P3 (NN : Int) a n c L (XO) (v : Int) w0 (HE.out.below hb (Nat.le_of_lt HG1.out.lt)) (Nat.le_trans (Nat.le_of_lt HG1.out.lt) hb.size) HLN.out HN10.out (by omega)).mono ?_
    rintro e w' ⟨a', n', c', rfl, h1, h2, h3⟩
    have e1 : pEnds (NN : Int) L ((readP (XO)).getD []) (v : Int) = endsL NN (orR RT idR) v := by
      rw [HRXO.out, ← HPT.out]
      have h0 := (more_ok HTT.out).1
      rw [← HPT.out] at h0
      show pEnds _ _ (oneMore 6 PT) _ = _
      rw [pEnds_is HOL.out h0 hv]
      rw [ldR_opt NN L PT HTO.out, HRT.out]
    rw [e1] at h1 h2
    exact ⟨a', n', c', rfl, h1, h2, h3⟩
  go_wp2
  go_loopw [7] (fun i wr => ∃ v : Nat, i = .int .i64 v ∧ v ≤ NN ∧ Hid (Below W1.heap.size W1 wr)) (fun i _ => NN - (intOf i).toNat)
  case atStart => exact ⟨0, rfl, by omega, HB14⟩
  case round =>
    obtain ⟨V, rfl⟩ : ∃ V, V = wr := ⟨_, rfl⟩
    obtain ⟨v, rfl, hv, HBV⟩ := hrel
    have HGW : Hid (∀ wx, Below W1.heap.size W1 wx → wx.cell? ⟨P3, 0, none⟩ = some (.int .i64 (NN : Int)) ∧ wx.cell? ⟨P3, 1, none⟩ = some (.slice a n c)) := fun wx hb => blk_pair_cells (HG1.out.of_block (hb.block _ HG1.out.lt))
    obtain ⟨g0, g1⟩ := HGW.out V HBV.out
    by_cases hvn : v < NN
    · have hvn1 : (v : Int) < (NN : Int) := by omega
      have hz1 : ¬ 9223372036854775807 < (⟨#[40]⟩ : ByteArray).size + TT.size := by (try simp only [ByteArray.size_append]); have e1 : (⟨#[40]⟩ : ByteArray).size = 1 := rfl; have e2 : (⟨#[41]⟩ : ByteArray).size = 1 := rfl; have e3 : (⟨#[41, 124]⟩ : ByteArray).size = 2 := rfl; have e4 : (⟨#[41, 63]⟩ : ByteArray).size = 2 := rfl; have e5 : (⟨#[41, 42]⟩ : ByteArray).size = 2 := rfl; have e6 : (⟨#[41, 43]⟩ : ByteArray).size = 2 := rfl; omega
      have hz2 : ¬ 9223372036854775807 < ((⟨#[40]⟩ : ByteArray) ++ TT).size + (⟨#[41]⟩ : ByteArray).size := by (try simp only [ByteArray.size_append]); have e1 : (⟨#[40]⟩ : ByteArray).size = 1 := rfl; have e2 : (⟨#[41]⟩ : ByteArray).size = 1 := rfl; have e3 : (⟨#[41, 124]⟩ : ByteArray).size = 2 := rfl; have e4 : (⟨#[41, 63]⟩ : ByteArray).size = 2 := rfl; have e5 : (⟨#[41, 42]⟩ : ByteArray).size = 2 := rfl; have e6 : (⟨#[41, 43]⟩ : ByteArray).size = 2 := rfl; omega
      have hz3 : ¬ 9223372036854775807 < ((⟨#[40]⟩ : ByteArray) ++ TT ++ (⟨#[41]⟩ : ByteArray)).size + UU.size := by (try simp only [ByteArray.size_append]); have e1 : (⟨#[40]⟩ : ByteArray).size = 1 := rfl; have e2 : (⟨#[41]⟩ : ByteArray).size = 1 := rfl; have e3 : (⟨#[41, 124]⟩ : ByteArray).size = 2 := rfl; have e4 : (⟨#[41, 63]⟩ : ByteArray).size = 2 := rfl; have e5 : (⟨#[41, 42]⟩ : ByteArray).size = 2 := rfl; have e6 : (⟨#[41, 43]⟩ : ByteArray).size = 2 := rfl; omega
      have hz4 : ¬ 9223372036854775807 < ((⟨#[40]⟩ : ByteArray) ++ TT).size + (⟨#[41, 124]⟩ : ByteArray).size := by (try simp only [ByteArray.size_append]); have e1 : (⟨#[40]⟩ : ByteArray).size = 1 := rfl; have e2 : (⟨#[41]⟩ : ByteArray).size = 1 := rfl; have e3 : (⟨#[41, 124]⟩ : ByteArray).size = 2 := rfl; have e4 : (⟨#[41, 63]⟩ : ByteArray).size = 2 := rfl; have e5 : (⟨#[41, 42]⟩ : ByteArray).size = 2 := rfl; have e6 : (⟨#[41, 43]⟩ : ByteArray).size = 2 := rfl; omega
      have hz5 : ¬ 9223372036854775807 < ((⟨#[40]⟩ : ByteArray) ++ TT ++ (⟨#[41, 124]⟩ : ByteArray)).size + UU.size := by (try simp only [ByteArray.size_append]); have e1 : (⟨#[40]⟩ : ByteArray).size = 1 := rfl; have e2 : (⟨#[41]⟩ : ByteArray).size = 1 := rfl; have e3 : (⟨#[41, 124]⟩ : ByteArray).size = 2 := rfl; have e4 : (⟨#[41, 63]⟩ : ByteArray).size = 2 := rfl; have e5 : (⟨#[41, 42]⟩ : ByteArray).size = 2 := rfl; have e6 : (⟨#[41, 43]⟩ : ByteArray).size = 2 := rfl; omega
      have hz6 : ¬ 9223372036854775807 < ((⟨#[40]⟩ : ByteArray) ++ TT).size + (⟨#[41, 63]⟩ : ByteArray).size := by (try simp only [ByteArray.size_append]); have e1 : (⟨#[40]⟩ : ByteArray).size = 1 := rfl; have e2 : (⟨#[41]⟩ : ByteArray).size = 1 := rfl; have e3 : (⟨#[41, 124]⟩ : ByteArray).size = 2 := rfl; have e4 : (⟨#[41, 63]⟩ : ByteArray).size = 2 := rfl; have e5 : (⟨#[41, 42]⟩ : ByteArray).size = 2 := rfl; have e6 : (⟨#[41, 43]⟩ : ByteArray).size = 2 := rfl; omega
      go_wp2_with fail
      refine (HCT.out v V hvn HBV.out).mono ?_
      rintro e x0 ⟨b0, m0, k0, rfl, HL0, HR0, HB0X⟩
      have HBX0 : Hid (Below W1.heap.size W1 x0) := HBV.out.trans (HB0X.out.mono HBV.out.size)
      clear g0 g1
      obtain ⟨g0, g1⟩ := HGW.out x0 HBX0.out
      go_wp2_with fail
      refine (HCU.out v x0 hvn HBX0.out).mono ?_
      rintro e x1 ⟨b1, m1, k1, rfl, HL1, HR1, HB1X⟩
      have HBX1 : Hid (Below W1.heap.size W1 x1) := HBX0.out.trans (HB1X.out.mono HBX0.out.size)
      clear g0 g1
      obtain ⟨g0, g1⟩ := HGW.out x1 HBX1.out
      go_wp2_with fail
      rw [← HXXR.out]
      refine (HCR.out v x1 hvn HBX1.out).mono ?_
      rintro e x2 ⟨b2, m2, k2, rfl, HL2, HR2, HB2X⟩
      have HBX2 : Hid (Below W1.heap.size W1 x2) := HBX1.out.trans (HB2X.out.mono HBX1.out.size)
      clear g0 g1
      obtain ⟨g0, g1⟩ := HGW.out x2 HBX2.out
      go_wp2_with fail
      rw [← HXXA.out]
      refine (HCA.out v x2 hvn HBX2.out).mono ?_
      rintro e x3 ⟨b3, m3, k3, rfl, HL3, HR3, HB3X⟩
      have HBX3 : Hid (Below W1.heap.size W1 x3) := HBX2.out.trans (HB3X.out.mono HBX2.out.size)
      clear g0 g1
      obtain ⟨g0, g1⟩ := HGW.out x3 HBX3.out
      go_wp2_with fail
      rw [← HXXO.out]
      refine (HCO.out v x3 hvn HBX3.out).mono ?_
      rintro e x4 ⟨b4, m4, k4, rfl, HL4, HR4, HB4X⟩
      have HBX4 : Hid (Below W1.heap.size W1 x4) := HBX3.out.trans (HB4X.out.mono HBX3.out.size)
      clear g0 g1
      obtain ⟨g0, g1⟩ := HGW.out x4 HBX4.out
      have HCH0 : Hid (Below x0.heap.size x0 x4) := (((HB1X.out).trans (HB2X.out.mono (HB1X.out).size)).trans (HB3X.out.mono ((HB1X.out).trans (HB2X.out.mono (HB1X.out).size)).size)).trans (HB4X.out.mono (((HB1X.out).trans (HB2X.out.mono (HB1X.out).size)).trans (HB3X.out.mono ((HB1X.out).trans (HB2X.out.mono (HB1X.out).size)).size)).size)
      have HRW0 : Hid (∀ ww, Below x4.heap.size x4 ww → RowIn V.heap.size x0.heap.size ww b0 (endsL NN (RT) v)) := fun ww hb => (HR0.out.below HCH0.out (Nat.le_refl _)).below hb HCH0.out.size
      have hM0 : m0 ≤ 12 := by rw [← HL0.out]; exact Nat.le_trans (endsL_len _ _ _) (by omega)
      have HCH1 : Hid (Below x1.heap.size x1 x4) := ((HB2X.out).trans (HB3X.out.mono (HB2X.out).size)).trans (HB4X.out.mono ((HB2X.out).trans (HB3X.out.mono (HB2X.out).size)).size)
      have HRW1 : Hid (∀ ww, Below x4.heap.size x4 ww → RowIn x0.heap.size x1.heap.size ww b1 (endsL NN (RU) v)) := fun ww hb => (HR1.out.below HCH1.out (Nat.le_refl _)).below hb HCH1.out.size
      have hM1 : m1 ≤ 12 := by rw [← HL1.out]; exact Nat.le_trans (endsL_len _ _ _) (by omega)
      have HCH2 : Hid (Below x2.heap.size x2 x4) := (HB3X.out).trans (HB4X.out.mono (HB3X.out).size)
      have HRW2 : Hid (∀ ww, Below x4.heap.size x4 ww → RowIn x1.heap.size x2.heap.size ww b2 (endsL NN (behR NN RT RU) v)) := fun ww hb => (HR2.out.below HCH2.out (Nat.le_refl _)).below hb HCH2.out.size
      have hM2 : m2 ≤ 12 := by rw [← HL2.out]; exact Nat.le_trans (endsL_len _ _ _) (by omega)
      have HCH3 : Hid (Below x3.heap.size x3 x4) := HB4X.out
      have HRW3 : Hid (∀ ww, Below x4.heap.size x4 ww → RowIn x2.heap.size x3.heap.size ww b3 (endsL NN (orR RT RU) v)) := fun ww hb => (HR3.out.below HCH3.out (Nat.le_refl _)).below hb HCH3.out.size
      have hM3 : m3 ≤ 12 := by rw [← HL3.out]; exact Nat.le_trans (endsL_len _ _ _) (by omega)
      have HCH4 : Hid (Below x4.heap.size x4 x4) := Below.refl _ _
      have HRW4 : Hid (∀ ww, Below x4.heap.size x4 ww → RowIn x3.heap.size x4.heap.size ww b4 (endsL NN (orR RT idR) v)) := fun ww hb => (HR4.out.below HCH4.out (Nat.le_refl _)).below hb HCH4.out.size
      have hM4 : m4 ≤ 12 := by rw [← HL4.out]; exact Nat.le_trans (endsL_len _ _ _) (by omega)
      clear HCH0 HCH1 HCH2 HCH3 HCH4 HR0 HR1 HR2 HR3 HR4 HB0X HB1X HB2X HB3X HB4X hz1 hz2 hz3 hz4 hz5 hz6
      go_wp2
      go_loopw [13] (fun i wr => ∃ x : Nat, i = .int .i64 x ∧ x ≤ NN ∧ Hid (Below x4.heap.size x4 wr)) (fun i _ => NN - (intOf i).toNat)
      case atStart => exact ⟨0, rfl, by omega, Below.refl _ _⟩
      case round =>
        clear g0 g1
        obtain ⟨X, rfl⟩ : ∃ V, V = wr := ⟨_, rfl⟩
        obtain ⟨x, rfl, hx, HBx⟩ := hrel
        obtain ⟨g0, g1⟩ := HGW.out X (HBX4.out.trans (HBx.out.mono HBX4.out.size))
        by_cases hxn : x < NN
        · have hxn1 : (x : Int) < (NN : Int) := by omega
          go_wp2
          go_loopw [15, 14] (fun i q wr => ∃ (k : Nat) (sq : Bool), i = .int .i64 k ∧ q = .bool sq ∧ Hid (sq = someTo (endsL NN RT v) (RU) x k) ∧ k ≤ m0 ∧ Hid (Below x4.heap.size x4 wr)) (fun i _ _ => m0 - (intOf i).toNat)
          case atStart => exact ⟨0, false, rfl, rfl, by show _ = _; simp [someTo], by omega, HBx⟩
          case round =>
            clear g0 g1
            obtain ⟨Y, rfl⟩ : ∃ V, V = wr := ⟨_, rfl⟩
            obtain ⟨k, sq, rfl, rfl, HSQ, hk, HBK⟩ := hrel
            have HBW : Hid (Below W1.heap.size W1 Y) := HBX4.out.trans (HBK.out.mono HBX4.out.size)
            obtain ⟨g0, g1⟩ := HGW.out Y HBW.out
            by_cases hkn : k < m0
            · have hkn1 : (k : Int) < (m0 : Int) := by omega
              have hkn0 : (0 : Int) ≤ (k : Int) := by omega
              have hkl : k < (endsL NN RT v).length := by rw [HL0.out]; exact hkn
              have HST := someTo_succ (R := RU) (x := x) hkl
              rw [← HSQ.out] at HST
              cases sq
              · simp only [Bool.false_or] at HST
                obtain ⟨j, hje, hj, _⟩ := ends_in (show (endsL NN RT v).getD k 0 ∈ endsL NN RT v by rw [List.getD_eq_getElem?_getD, List.getElem?_eq_getElem hkl]; exact List.getElem_mem hkl)
                rw [hje, Int.toNat_natCast] at HST
                obtain ⟨qq, HQQ⟩ : ∃ q, Hid (q = (RU) j x) := ⟨_, rfl⟩
                obtain ⟨bb, bo, hbb, hcell⟩ := (HRW0.out Y HBK.out).num hkl
                rw [hje] at hcell
                subst hbb
                clear hje
                go_wp2_with fail
                refine wp_region_held_drew (S := fun _ => True) (by kernel_rfl) trivial (fun hHeld => ?_)
                refine wpAnyH_take (i := 0) (oi := { dst := some 81, op := Go.Op.move (Go.Operand.tmp 14), type := 4, pos := "laws.go:448", after := #[], guard := none }) (v := ?_) rfl (by kernel_rfl) (by kernel_rfl) (by kernel_rfl) (fun _ _ _ h => h) (Or.inl ⟨by kernel_rfl, ?_⟩) (by assumption) ?_
                rotate_left
                · intro w hSw; (try dsimp only at hSw); go_simp; try with_reducible rfl
                simp only [Act.put, List.setIfInBounds_toArray, List.set_cons_zero, List.set_cons_succ]
                refine wpAnyH_take (i := 1) (oi := { dst := some 82, op := Go.Op.move (Go.Operand.tmp 81), type := 4, pos := "laws.go:448", after := #[{ on := 0, ground := Go.Ground.data }], guard := none }) (v := ?_) rfl (by kernel_rfl) (by kernel_rfl) (by kernel_rfl) (fun _ _ _ h => h) (Or.inl ⟨by kernel_rfl, ?_⟩) (by assumption) ?_
                rotate_left
                · intro w hSw; (try dsimp only at hSw); go_simp; try with_reducible rfl
                simp only [Act.put, List.setIfInBounds_toArray, List.set_cons_zero, List.set_cons_succ]
                refine wpAnyH_take (i := 3) (oi := { dst := some 84, op := Go.Op.move (Go.Operand.tmp 6), type := 9, pos := "laws.go:448", after := #[{ on := 1, ground := Go.Ground.guard }], guard := some (1, false) }) (v := ?_) rfl (by kernel_rfl) (by kernel_rfl) (by kernel_rfl) (fun _ _ _ h => h) (Or.inl ⟨by kernel_rfl, ?_⟩) (by assumption) ?_
                rotate_left
                · intro w hSw; (try dsimp only at hSw); go_simp; try with_reducible rfl
                simp only [Act.put, List.setIfInBounds_toArray, List.set_cons_zero, List.set_cons_succ]
                refine wpAnyH_take (i := 4) (oi := { dst := some 85, op := Go.Op.move (Go.Operand.tmp 8), type := 29, pos := "laws.go:448", after := #[{ on := 1, ground := Go.Ground.guard }], guard := some (1, false) }) (v := ?_) rfl (by kernel_rfl) (by kernel_rfl) (by kernel_rfl) (fun _ _ _ h => h) (Or.inl ⟨by kernel_rfl, ?_⟩) (by assumption) ?_
                rotate_left
                · intro w hSw; (try dsimp only at hSw); go_simp; try with_reducible rfl
                simp only [Act.put, List.setIfInBounds_toArray, List.set_cons_zero, List.set_cons_succ]
                refine wpAnyH_take (i := 5) (oi := { dst := some 86, op := Go.Op.move (Go.Operand.tmp 15), type := 3, pos := "laws.go:448", after := #[{ on := 1, ground := Go.Ground.guard }], guard := some (1, false) }) (v := ?_) rfl (by kernel_rfl) (by kernel_rfl) (by kernel_rfl) (fun _ _ _ h => h) (Or.inl ⟨by kernel_rfl, ?_⟩) (by assumption) ?_
                rotate_left
                · intro w hSw; (try dsimp only at hSw); go_simp; try with_reducible rfl
                simp only [Act.put, List.setIfInBounds_toArray, List.set_cons_zero, List.set_cons_succ]
                refine wpAnyH_take (i := 6) (oi := { dst := some 87, op := Go.Op.indexAddr 29 (Go.Operand.tmp 85) (Go.Operand.tmp 86), type := 0, pos := "laws.go:448", after := #[{ on := 4, ground := Go.Ground.data }, { on := 5, ground := Go.Ground.data }, { on := 1, ground := Go.Ground.guard }], guard := some (1, false) }) (v := ?_) rfl (by kernel_rfl) (by kernel_rfl) (by kernel_rfl) (fun _ _ _ h => h) (Or.inl ⟨by kernel_rfl, ?_⟩) (by assumption) ?_
                rotate_left
                · intro w hSw; (try dsimp only at hSw); go_simp; try with_reducible rfl
                simp only [Act.put, List.setIfInBounds_toArray, List.set_cons_zero, List.set_cons_succ]
                refine wpAnyH_take (i := 9) (oi := { dst := some 90, op := Go.Op.move (Go.Operand.tmp 13), type := 3, pos := "laws.go:448", after := #[{ on := 1, ground := Go.Ground.guard }], guard := some (1, false) }) (v := ?_) rfl (by kernel_rfl) (by kernel_rfl) (by kernel_rfl) (fun _ _ _ h => h) (Or.inl ⟨by kernel_rfl, ?_⟩) (by assumption) ?_
                rotate_left
                · intro w hSw; (try dsimp only at hSw); go_simp; try with_reducible rfl
                simp only [Act.put, List.setIfInBounds_toArray, List.set_cons_zero, List.set_cons_succ]
                refine wpAnyH_ready (rs := [2, 7]) (by kernel_rfl) (by simp) ?_
                refine AllReadyH.cons (o := { dst := some 83, op := Go.Op.load 26 (Go.Operand.tmp 3), type := 26, pos := "laws.go:448", after := #[{ on := 1, ground := Go.Ground.guard }], guard := some (1, false) }) rfl (fun K hK => ?_) ?_
                · go_simp
                  refine hK.out _ _ trivial (fun hHeld => ?_)
                  clear hK K
                  try simp only [Act.put, List.setIfInBounds_toArray, List.set_cons_zero, List.set_cons_succ]
                  refine wpAnyH_ready (rs := [7]) (by kernel_rfl) (by simp) ?_
                  refine AllReadyH.cons (o := { dst := some 88, op := Go.Op.load 3 (Go.Operand.tmp 87), type := 3, pos := "laws.go:448", after := #[{ on := 6, ground := Go.Ground.data }, { on := 1, ground := Go.Ground.guard }], guard := some (1, false) }) rfl (fun K hK => ?_) ?_
                  · go_simp
                    refine hK.out _ _ trivial (fun hHeld => ?_)
                    clear hK K
                    try simp only [Act.put, List.setIfInBounds_toArray, List.set_cons_zero, List.set_cons_succ]
                    refine wpAnyH_ready (rs := [8]) (by kernel_rfl) (by simp) ?_
                    refine AllReadyH.cons (o := { dst := some 89, op := Go.Op.call { callee := Go.Callee.value (Go.Operand.func 11), args := #[Go.Operand.tmp 83, Go.Operand.tmp 84, Go.Operand.tmp 88], argTypes := #[26, 9, 3] }, type := 29, pos := "laws.go:448", after := #[{ on := 2, ground := Go.Ground.data }, { on := 3, ground := Go.Ground.data }, { on := 7, ground := Go.Ground.data }, { on := 1, ground := Go.Ground.chain }, { on := 1, ground := Go.Ground.guard }], guard := some (1, false) }) rfl (fun K hK => ?_) ?_
                    · go_simp
                      go_wp2_with (go_at_call 11; refine (HCU.out j _ hj HBW.out.drew).mono ?_; rintro e y1 ⟨by1, my1, cy1, rfl, HLY, HRY, HBY⟩)
                      refine hK.out _ _ trivial (fun hHeld => ?_)
                      clear hK K
                      try simp only [Act.put, List.setIfInBounds_toArray, List.set_cons_zero, List.set_cons_succ]
                      refine wpAnyH_ready (rs := [10]) (by kernel_rfl) (by simp) ?_
                      refine AllReadyH.cons (o := { dst := some 91, op := Go.Op.call { callee := Go.Callee.value (Go.Operand.func 12), args := #[Go.Operand.tmp 89, Go.Operand.tmp 90], argTypes := #[29, 3] }, type := 4, pos := "laws.go:448", after := #[{ on := 8, ground := Go.Ground.data }, { on := 9, ground := Go.Ground.data }, { on := 8, ground := Go.Ground.chain }, { on := 1, ground := Go.Ground.guard }], guard := some (1, false) }) rfl (fun K hK => ?_) ?_
                      · go_simp
                        go_wp2_with (go_at_call 12; refine (in_q _ _ by1 my1 cy1 _ (x : Int) qq y1 HRY.out HLY.out (by rw [← HLY.out]; exact Nat.le_trans (endsL_len _ _ _) (by omega)) (by rw [HQQ.out, mem_ends hxn])).mono ?_; rintro e y2 ⟨rfl, HBY2⟩)
                        refine hK.out _ _ trivial (fun hHeld => ?_)
                        clear hK K
                        try simp only [Act.put, List.setIfInBounds_toArray, List.set_cons_zero, List.set_cons_succ]
                        refine wpAnyH_take (i := 11) (oi := { dst := some 92, op := Go.Op.pick (Go.Operand.tmp 82) (Go.Operand.const (Go.Value.bool true)) (Go.Operand.tmp 91), type := 4, pos := "laws.go:448", after := #[{ on := 1, ground := Go.Ground.data }, { on := 10, ground := Go.Ground.data }], guard := none }) (v := ?_) rfl (by kernel_rfl) (by kernel_rfl) (by kernel_rfl) (fun _ _ _ h => h) (Or.inl ⟨by kernel_rfl, ?_⟩) (by assumption) ?_
                        rotate_left
                        · intro w hSw; (try dsimp only at hSw); go_simp; try with_reducible rfl
                        simp only [Act.put, List.setIfInBounds_toArray, List.set_cons_zero, List.set_cons_succ]
                        refine wpAnyH_take (i := 12) (oi := { dst := some 14, op := Go.Op.assign (Go.Operand.tmp 92), type := 4, pos := "laws.go:448", after := #[{ on := 11, ground := Go.Ground.data }, { on := 10, ground := Go.Ground.chain }, { on := 0, ground := Go.Ground.phase }, { on := 1, ground := Go.Ground.phase }, { on := 2, ground := Go.Ground.phase }, { on := 3, ground := Go.Ground.phase }, { on := 4, ground := Go.Ground.phase }, { on := 5, ground := Go.Ground.phase }, { on := 6, ground := Go.Ground.phase }, { on := 7, ground := Go.Ground.phase }, { on := 8, ground := Go.Ground.phase }, { on := 9, ground := Go.Ground.phase }, { on := 10, ground := Go.Ground.phase }, { on := 11, ground := Go.Ground.phase }], guard := none }) (v := ?_) rfl (by kernel_rfl) (by kernel_rfl) (by kernel_rfl) (fun _ _ _ h => h) (Or.inl ⟨by kernel_rfl, ?_⟩) (by assumption) ?_
                        rotate_left
                        · intro w hSw; (try dsimp only at hSw); go_simp; try with_reducible rfl
                        simp only [Act.put, List.setIfInBounds_toArray, List.set_cons_zero, List.set_cons_succ]
                        refine wpAnyH_done (by kernel_rfl) ?_ _
                        have HB2 : Hid (Below x4.heap.size x4 y2) := HBK.out.drew.trans ((HBY.out.trans (HBY2.out.mono HBY.out.size)).mono (HBK.out.drew).size)
                        go_wp2
                        go_roundw
                        case rel => exact ⟨k + 1, qq, by go_num, rfl, by show _ = _; rw [HQQ.out]; exact HST.symm, by omega, HB2⟩
                        case measure => simp [intOf]; omega
                      exact AllReadyH.nil
                    exact AllReadyH.nil
                  exact AllReadyH.nil
                refine AllReadyH.cons (o := { dst := some 88, op := Go.Op.load 3 (Go.Operand.tmp 87), type := 3, pos := "laws.go:448", after := #[{ on := 6, ground := Go.Ground.data }, { on := 1, ground := Go.Ground.guard }], guard := some (1, false) }) rfl (fun K hK => ?_) ?_
                · go_simp
                  refine hK.out _ _ trivial (fun hHeld => ?_)
                  clear hK K
                  try simp only [Act.put, List.setIfInBounds_toArray, List.set_cons_zero, List.set_cons_succ]
                  refine wpAnyH_ready (rs := [2]) (by kernel_rfl) (by simp) ?_
                  refine AllReadyH.cons (o := { dst := some 83, op := Go.Op.load 26 (Go.Operand.tmp 3), type := 26, pos := "laws.go:448", after := #[{ on := 1, ground := Go.Ground.guard }], guard := some (1, false) }) rfl (fun K hK => ?_) ?_
                  · go_simp
                    refine hK.out _ _ trivial (fun hHeld => ?_)
                    clear hK K
                    try simp only [Act.put, List.setIfInBounds_toArray, List.set_cons_zero, List.set_cons_succ]
                    refine wpAnyH_ready (rs := [8]) (by kernel_rfl) (by simp) ?_
                    refine AllReadyH.cons (o := { dst := some 89, op := Go.Op.call { callee := Go.Callee.value (Go.Operand.func 11), args := #[Go.Operand.tmp 83, Go.Operand.tmp 84, Go.Operand.tmp 88], argTypes := #[26, 9, 3] }, type := 29, pos := "laws.go:448", after := #[{ on := 2, ground := Go.Ground.data }, { on := 3, ground := Go.Ground.data }, { on := 7, ground := Go.Ground.data }, { on := 1, ground := Go.Ground.chain }, { on := 1, ground := Go.Ground.guard }], guard := some (1, false) }) rfl (fun K hK => ?_) ?_
                    · go_simp
                      go_wp2_with (go_at_call 11; refine (HCU.out j _ hj HBW.out.drew).mono ?_; rintro e y1 ⟨by1, my1, cy1, rfl, HLY, HRY, HBY⟩)
                      refine hK.out _ _ trivial (fun hHeld => ?_)
                      clear hK K
                      try simp only [Act.put, List.setIfInBounds_toArray, List.set_cons_zero, List.set_cons_succ]
                      refine wpAnyH_ready (rs := [10]) (by kernel_rfl) (by simp) ?_
                      refine AllReadyH.cons (o := { dst := some 91, op := Go.Op.call { callee := Go.Callee.value (Go.Operand.func 12), args := #[Go.Operand.tmp 89, Go.Operand.tmp 90], argTypes := #[29, 3] }, type := 4, pos := "laws.go:448", after := #[{ on := 8, ground := Go.Ground.data }, { on := 9, ground := Go.Ground.data }, { on := 8, ground := Go.Ground.chain }, { on := 1, ground := Go.Ground.guard }], guard := some (1, false) }) rfl (fun K hK => ?_) ?_
                      · go_simp
                        go_wp2_with (go_at_call 12; refine (in_q _ _ by1 my1 cy1 _ (x : Int) qq y1 HRY.out HLY.out (by rw [← HLY.out]; exact Nat.le_trans (endsL_len _ _ _) (by omega)) (by rw [HQQ.out, mem_ends hxn])).mono ?_; rintro e y2 ⟨rfl, HBY2⟩)
                        refine hK.out _ _ trivial (fun hHeld => ?_)
                        clear hK K
                        try simp only [Act.put, List.setIfInBounds_toArray, List.set_cons_zero, List.set_cons_succ]
                        refine wpAnyH_take (i := 11) (oi := { dst := some 92, op := Go.Op.pick (Go.Operand.tmp 82) (Go.Operand.const (Go.Value.bool true)) (Go.Operand.tmp 91), type := 4, pos := "laws.go:448", after := #[{ on := 1, ground := Go.Ground.data }, { on := 10, ground := Go.Ground.data }], guard := none }) (v := ?_) rfl (by kernel_rfl) (by kernel_rfl) (by kernel_rfl) (fun _ _ _ h => h) (Or.inl ⟨by kernel_rfl, ?_⟩) (by assumption) ?_
                        rotate_left
                        · intro w hSw; (try dsimp only at hSw); go_simp; try with_reducible rfl
                        simp only [Act.put, List.setIfInBounds_toArray, List.set_cons_zero, List.set_cons_succ]
                        refine wpAnyH_take (i := 12) (oi := { dst := some 14, op := Go.Op.assign (Go.Operand.tmp 92), type := 4, pos := "laws.go:448", after := #[{ on := 11, ground := Go.Ground.data }, { on := 10, ground := Go.Ground.chain }, { on := 0, ground := Go.Ground.phase }, { on := 1, ground := Go.Ground.phase }, { on := 2, ground := Go.Ground.phase }, { on := 3, ground := Go.Ground.phase }, { on := 4, ground := Go.Ground.phase }, { on := 5, ground := Go.Ground.phase }, { on := 6, ground := Go.Ground.phase }, { on := 7, ground := Go.Ground.phase }, { on := 8, ground := Go.Ground.phase }, { on := 9, ground := Go.Ground.phase }, { on := 10, ground := Go.Ground.phase }, { on := 11, ground := Go.Ground.phase }], guard := none }) (v := ?_) rfl (by kernel_rfl) (by kernel_rfl) (by kernel_rfl) (fun _ _ _ h => h) (Or.inl ⟨by kernel_rfl, ?_⟩) (by assumption) ?_
                        rotate_left
                        · intro w hSw; (try dsimp only at hSw); go_simp; try with_reducible rfl
                        simp only [Act.put, List.setIfInBounds_toArray, List.set_cons_zero, List.set_cons_succ]
                        refine wpAnyH_done (by kernel_rfl) ?_ _
                        have HB2 : Hid (Below x4.heap.size x4 y2) := HBK.out.drew.trans ((HBY.out.trans (HBY2.out.mono HBY.out.size)).mono (HBK.out.drew).size)
                        go_wp2
                        go_roundw
                        case rel => exact ⟨k + 1, qq, by go_num, rfl, by show _ = _; rw [HQQ.out]; exact HST.symm, by omega, HB2⟩
                        case measure => simp [intOf]; omega
                      exact AllReadyH.nil
                    exact AllReadyH.nil
                  exact AllReadyH.nil
                exact AllReadyH.nil
              · simp only [Bool.true_or] at HST
                go_wp2_with fail
                refine wp_region_held_drew (S := fun _ => True) (by kernel_rfl) trivial (fun hHeld => ?_)
                refine wpAnyH_take (i := 0) (oi := { dst := some 81, op := Go.Op.move (Go.Operand.tmp 14), type := 4, pos := "laws.go:448", after := #[], guard := none }) (v := ?_) rfl (by kernel_rfl) (by kernel_rfl) (by kernel_rfl) (fun _ _ _ h => h) (Or.inl ⟨by kernel_rfl, ?_⟩) (by assumption) ?_
                rotate_left
                · intro w hSw; (try dsimp only at hSw); go_simp; try with_reducible rfl
                simp only [Act.put, List.setIfInBounds_toArray, List.set_cons_zero, List.set_cons_succ]
                refine wpAnyH_take (i := 1) (oi := { dst := some 82, op := Go.Op.move (Go.Operand.tmp 81), type := 4, pos := "laws.go:448", after := #[{ on := 0, ground := Go.Ground.data }], guard := none }) (v := ?_) rfl (by kernel_rfl) (by kernel_rfl) (by kernel_rfl) (fun _ _ _ h => h) (Or.inl ⟨by kernel_rfl, ?_⟩) (by assumption) ?_
                rotate_left
                · intro w hSw; (try dsimp only at hSw); go_simp; try with_reducible rfl
                simp only [Act.put, List.setIfInBounds_toArray, List.set_cons_zero, List.set_cons_succ]
                refine wpAnyH_take (i := 2) (oi := { dst := some 83, op := Go.Op.load 26 (Go.Operand.tmp 3), type := 26, pos := "laws.go:448", after := #[{ on := 1, ground := Go.Ground.guard }], guard := some (1, false) }) (v := undef) rfl (by kernel_rfl) (by kernel_rfl) (by kernel_rfl) (fun _ _ _ h => h) (Or.inr ⟨by kernel_rfl, rfl⟩) (by assumption) ?_
                simp only [Act.put, List.setIfInBounds_toArray, List.set_cons_zero, List.set_cons_succ]
                refine wpAnyH_take (i := 3) (oi := { dst := some 84, op := Go.Op.move (Go.Operand.tmp 6), type := 9, pos := "laws.go:448", after := #[{ on := 1, ground := Go.Ground.guard }], guard := some (1, false) }) (v := undef) rfl (by kernel_rfl) (by kernel_rfl) (by kernel_rfl) (fun _ _ _ h => h) (Or.inr ⟨by kernel_rfl, rfl⟩) (by assumption) ?_
                simp only [Act.put, List.setIfInBounds_toArray, List.set_cons_zero, List.set_cons_succ]
                refine wpAnyH_take (i := 4) (oi := { dst := some 85, op := Go.Op.move (Go.Operand.tmp 8), type := 29, pos := "laws.go:448", after := #[{ on := 1, ground := Go.Ground.guard }], guard := some (1, false) }) (v := undef) rfl (by kernel_rfl) (by kernel_rfl) (by kernel_rfl) (fun _ _ _ h => h) (Or.inr ⟨by kernel_rfl, rfl⟩) (by assumption) ?_
                simp only [Act.put, List.setIfInBounds_toArray, List.set_cons_zero, List.set_cons_succ]
                refine wpAnyH_take (i := 5) (oi := { dst := some 86, op := Go.Op.move (Go.Operand.tmp 15), type := 3, pos := "laws.go:448", after := #[{ on := 1, ground := Go.Ground.guard }], guard := some (1, false) }) (v := undef) rfl (by kernel_rfl) (by kernel_rfl) (by kernel_rfl) (fun _ _ _ h => h) (Or.inr ⟨by kernel_rfl, rfl⟩) (by assumption) ?_
                simp only [Act.put, List.setIfInBounds_toArray, List.set_cons_zero, List.set_cons_succ]
                refine wpAnyH_take (i := 6) (oi := { dst := some 87, op := Go.Op.indexAddr 29 (Go.Operand.tmp 85) (Go.Operand.tmp 86), type := 0, pos := "laws.go:448", after := #[{ on := 4, ground := Go.Ground.data }, { on := 5, ground := Go.Ground.data }, { on := 1, ground := Go.Ground.guard }], guard := some (1, false) }) (v := undef) rfl (by kernel_rfl) (by kernel_rfl) (by kernel_rfl) (fun _ _ _ h => h) (Or.inr ⟨by kernel_rfl, rfl⟩) (by assumption) ?_
                simp only [Act.put, List.setIfInBounds_toArray, List.set_cons_zero, List.set_cons_succ]
                refine wpAnyH_take (i := 7) (oi := { dst := some 88, op := Go.Op.load 3 (Go.Operand.tmp 87), type := 3, pos := "laws.go:448", after := #[{ on := 6, ground := Go.Ground.data }, { on := 1, ground := Go.Ground.guard }], guard := some (1, false) }) (v := undef) rfl (by kernel_rfl) (by kernel_rfl) (by kernel_rfl) (fun _ _ _ h => h) (Or.inr ⟨by kernel_rfl, rfl⟩) (by assumption) ?_
                simp only [Act.put, List.setIfInBounds_toArray, List.set_cons_zero, List.set_cons_succ]
                refine wpAnyH_take (i := 9) (oi := { dst := some 90, op := Go.Op.move (Go.Operand.tmp 13), type := 3, pos := "laws.go:448", after := #[{ on := 1, ground := Go.Ground.guard }], guard := some (1, false) }) (v := undef) rfl (by kernel_rfl) (by kernel_rfl) (by kernel_rfl) (fun _ _ _ h => h) (Or.inr ⟨by kernel_rfl, rfl⟩) (by assumption) ?_
                simp only [Act.put, List.setIfInBounds_toArray, List.set_cons_zero, List.set_cons_succ]
                refine wpAnyH_ready (rs := [8]) (by kernel_rfl) (by simp) ?_
                refine AllReadyH.cons (o := { dst := some 89, op := Go.Op.call { callee := Go.Callee.value (Go.Operand.func 11), args := #[Go.Operand.tmp 83, Go.Operand.tmp 84, Go.Operand.tmp 88], argTypes := #[26, 9, 3] }, type := 29, pos := "laws.go:448", after := #[{ on := 2, ground := Go.Ground.data }, { on := 3, ground := Go.Ground.data }, { on := 7, ground := Go.Ground.data }, { on := 1, ground := Go.Ground.chain }, { on := 1, ground := Go.Ground.guard }], guard := some (1, false) }) rfl (fun K hK => ?_) ?_
                · rw [if_neg (by refine Bool.eq_false_iff.1 ?_; kernel_rfl)]
                  refine hK.out _ _ trivial (fun hHeld => ?_)
                  clear hK K
                  try simp only [Act.put, List.setIfInBounds_toArray, List.set_cons_zero, List.set_cons_succ]
                  refine wpAnyH_ready (rs := [10]) (by kernel_rfl) (by simp) ?_
                  refine AllReadyH.cons (o := { dst := some 91, op := Go.Op.call { callee := Go.Callee.value (Go.Operand.func 12), args := #[Go.Operand.tmp 89, Go.Operand.tmp 90], argTypes := #[29, 3] }, type := 4, pos := "laws.go:448", after := #[{ on := 8, ground := Go.Ground.data }, { on := 9, ground := Go.Ground.data }, { on := 8, ground := Go.Ground.chain }, { on := 1, ground := Go.Ground.guard }], guard := some (1, false) }) rfl (fun K hK => ?_) ?_
                  · rw [if_neg (by refine Bool.eq_false_iff.1 ?_; kernel_rfl)]
                    refine hK.out _ _ trivial (fun hHeld => ?_)
                    clear hK K
                    try simp only [Act.put, List.setIfInBounds_toArray, List.set_cons_zero, List.set_cons_succ]
                    refine wpAnyH_take (i := 11) (oi := { dst := some 92, op := Go.Op.pick (Go.Operand.tmp 82) (Go.Operand.const (Go.Value.bool true)) (Go.Operand.tmp 91), type := 4, pos := "laws.go:448", after := #[{ on := 1, ground := Go.Ground.data }, { on := 10, ground := Go.Ground.data }], guard := none }) (v := ?_) rfl (by kernel_rfl) (by kernel_rfl) (by kernel_rfl) (fun _ _ _ h => h) (Or.inl ⟨by kernel_rfl, ?_⟩) (by assumption) ?_
                    rotate_left
                    · intro w hSw; (try dsimp only at hSw); go_simp; try with_reducible rfl
                    simp only [Act.put, List.setIfInBounds_toArray, List.set_cons_zero, List.set_cons_succ]
                    refine wpAnyH_take (i := 12) (oi := { dst := some 14, op := Go.Op.assign (Go.Operand.tmp 92), type := 4, pos := "laws.go:448", after := #[{ on := 11, ground := Go.Ground.data }, { on := 10, ground := Go.Ground.chain }, { on := 0, ground := Go.Ground.phase }, { on := 1, ground := Go.Ground.phase }, { on := 2, ground := Go.Ground.phase }, { on := 3, ground := Go.Ground.phase }, { on := 4, ground := Go.Ground.phase }, { on := 5, ground := Go.Ground.phase }, { on := 6, ground := Go.Ground.phase }, { on := 7, ground := Go.Ground.phase }, { on := 8, ground := Go.Ground.phase }, { on := 9, ground := Go.Ground.phase }, { on := 10, ground := Go.Ground.phase }, { on := 11, ground := Go.Ground.phase }], guard := none }) (v := ?_) rfl (by kernel_rfl) (by kernel_rfl) (by kernel_rfl) (fun _ _ _ h => h) (Or.inl ⟨by kernel_rfl, ?_⟩) (by assumption) ?_
                    rotate_left
                    · intro w hSw; (try dsimp only at hSw); go_simp; try with_reducible rfl
                    simp only [Act.put, List.setIfInBounds_toArray, List.set_cons_zero, List.set_cons_succ]
                    refine wpAnyH_done (by kernel_rfl) ?_ _
                    go_wp2
                    go_roundw
                    case rel => exact ⟨k + 1, true, by go_num, rfl, HST.symm, by omega, HBK.out.drew⟩
                    case measure => simp [intOf]; omega
                  exact AllReadyH.nil
                exact AllReadyH.nil
            · obtain rfl : m0 = k := by omega
              have hkn1 : ¬ (m0 : Int) < (m0 : Int) := by omega
              have HSV : Hid (sq = behR NN RT (RU) v x) := by show _ = _; rw [HSQ.out, ← someTo_all, HL0.out]
              clear HSQ
              obtain ⟨qt, HQT⟩ : ∃ q, Hid (q = RT v x) := ⟨_, rfl⟩
              obtain ⟨qu, HQU⟩ : ∃ q, Hid (q = RU v x) := ⟨_, rfl⟩
              have HAL : Hid ((qt || qu) = orR RT RU v x) := by show _ = _; unfold orR; rw [HQT.out, HQU.out]
              have HOP : Hid ((qt || decide (v = x)) = orR RT idR v x) := by show _ = _; unfold orR idR; rw [HQT.out]
              by_cases hvx : (x : Int) = (v : Int)
              · have HVX : Hid (decide (v = x) = true) := by show _ = _; simp; omega
                rw [HVX.out] at HOP
                obtain rfl : v = x := by omega
                clear hvx
                cases sq
                · cases qt
                  · cases qu
                    · go_wp2_with fail
                      refine (in_q _ _ b2 m2 k2 _ (v : Int) false _ (HRW2.out _ HBK.out) HL2.out (by omega) (by rw [mem_ends hxn]; exact HSV.out)).mono ?_
                      rintro e u0 ⟨rfl, hb_u0⟩
                      have HB_u0 : Hid (Below x4.heap.size x4 u0) := HBK.out.trans (hb_u0.out.mono HBK.out.size)
                      clear hb_u0
                      go_wp2_with fail
                      refine (in_q _ _ b3 m3 k3 _ (v : Int) false _ (HRW3.out _ HB_u0.out) HL3.out (by omega) (by rw [mem_ends hxn]; exact HAL.out)).mono ?_
                      rintro e u1 ⟨rfl, hb_u1⟩
                      have HB_u1 : Hid (Below x4.heap.size x4 u1) := HB_u0.out.trans (hb_u1.out.mono HB_u0.out.size)
                      clear hb_u1
                      go_wp2_with fail
                      refine (in_q _ _ b0 m0 k0 _ (v : Int) false _ (HRW0.out _ HB_u1.out) HL0.out (by omega) (by rw [mem_ends hxn]; exact HQT.out)).mono ?_
                      rintro e u2 ⟨rfl, hb_u2⟩
                      have HB_u2 : Hid (Below x4.heap.size x4 u2) := HB_u1.out.trans (hb_u2.out.mono HB_u1.out.size)
                      clear hb_u2
                      go_wp2_with fail
                      refine (in_q _ _ b1 m1 k1 _ (v : Int) false _ (HRW1.out _ HB_u2.out) HL1.out (by omega) (by rw [mem_ends hxn]; exact HQU.out)).mono ?_
                      rintro e u3 ⟨rfl, hb_u3⟩
                      have HB_u3 : Hid (Below x4.heap.size x4 u3) := HB_u2.out.trans (hb_u3.out.mono HB_u2.out.size)
                      clear hb_u3
                      go_wp2_with fail
                      refine (in_q _ _ b4 m4 k4 _ (v : Int) true _ (HRW4.out _ HB_u3.out) HL4.out (by omega) (by rw [mem_ends hxn]; exact HOP.out)).mono ?_
                      rintro e u4 ⟨rfl, hb_u4⟩
                      have HB_u4 : Hid (Below x4.heap.size x4 u4) := HB_u3.out.trans (hb_u4.out.mono HB_u3.out.size)
                      clear hb_u4
                      go_wp2
                      go_roundw
                      case rel => exact ⟨v + 1, by go_num, by omega, HB_u4⟩
                      case measure => simp [intOf]; omega
                    · go_wp2_with fail
                      refine (in_q _ _ b2 m2 k2 _ (v : Int) false _ (HRW2.out _ HBK.out) HL2.out (by omega) (by rw [mem_ends hxn]; exact HSV.out)).mono ?_
                      rintro e u0 ⟨rfl, hb_u0⟩
                      have HB_u0 : Hid (Below x4.heap.size x4 u0) := HBK.out.trans (hb_u0.out.mono HBK.out.size)
                      clear hb_u0
                      go_wp2_with fail
                      refine (in_q _ _ b3 m3 k3 _ (v : Int) true _ (HRW3.out _ HB_u0.out) HL3.out (by omega) (by rw [mem_ends hxn]; exact HAL.out)).mono ?_
                      rintro e u1 ⟨rfl, hb_u1⟩
                      have HB_u1 : Hid (Below x4.heap.size x4 u1) := HB_u0.out.trans (hb_u1.out.mono HB_u0.out.size)
                      clear hb_u1
                      go_wp2_with fail
                      refine (in_q _ _ b0 m0 k0 _ (v : Int) false _ (HRW0.out _ HB_u1.out) HL0.out (by omega) (by rw [mem_ends hxn]; exact HQT.out)).mono ?_
                      rintro e u2 ⟨rfl, hb_u2⟩
                      have HB_u2 : Hid (Below x4.heap.size x4 u2) := HB_u1.out.trans (hb_u2.out.mono HB_u1.out.size)
                      clear hb_u2
                      go_wp2_with fail
                      refine (in_q _ _ b1 m1 k1 _ (v : Int) true _ (HRW1.out _ HB_u2.out) HL1.out (by omega) (by rw [mem_ends hxn]; exact HQU.out)).mono ?_
                      rintro e u3 ⟨rfl, hb_u3⟩
                      have HB_u3 : Hid (Below x4.heap.size x4 u3) := HB_u2.out.trans (hb_u3.out.mono HB_u2.out.size)
                      clear hb_u3
                      go_wp2_with fail
                      refine (in_q _ _ b4 m4 k4 _ (v : Int) true _ (HRW4.out _ HB_u3.out) HL4.out (by omega) (by rw [mem_ends hxn]; exact HOP.out)).mono ?_
                      rintro e u4 ⟨rfl, hb_u4⟩
                      have HB_u4 : Hid (Below x4.heap.size x4 u4) := HB_u3.out.trans (hb_u4.out.mono HB_u3.out.size)
                      clear hb_u4
                      go_wp2
                      go_roundw
                      case rel => exact ⟨v + 1, by go_num, by omega, HB_u4⟩
                      case measure => simp [intOf]; omega
                  · go_wp2_with fail
                    refine (in_q _ _ b2 m2 k2 _ (v : Int) false _ (HRW2.out _ HBK.out) HL2.out (by omega) (by rw [mem_ends hxn]; exact HSV.out)).mono ?_
                    rintro e u0 ⟨rfl, hb_u0⟩
                    have HB_u0 : Hid (Below x4.heap.size x4 u0) := HBK.out.trans (hb_u0.out.mono HBK.out.size)
                    clear hb_u0
                    go_wp2_with fail
                    refine (in_q _ _ b3 m3 k3 _ (v : Int) true _ (HRW3.out _ HB_u0.out) HL3.out (by omega) (by rw [mem_ends hxn]; exact HAL.out)).mono ?_
                    rintro e u1 ⟨rfl, hb_u1⟩
                    have HB_u1 : Hid (Below x4.heap.size x4 u1) := HB_u0.out.trans (hb_u1.out.mono HB_u0.out.size)
                    clear hb_u1
                    go_wp2_with fail
                    refine (in_q _ _ b0 m0 k0 _ (v : Int) true _ (HRW0.out _ HB_u1.out) HL0.out (by omega) (by rw [mem_ends hxn]; exact HQT.out)).mono ?_
                    rintro e u2 ⟨rfl, hb_u2⟩
                    have HB_u2 : Hid (Below x4.heap.size x4 u2) := HB_u1.out.trans (hb_u2.out.mono HB_u1.out.size)
                    clear hb_u2
                    go_wp2_with fail
                    refine (in_q _ _ b4 m4 k4 _ (v : Int) true _ (HRW4.out _ HB_u2.out) HL4.out (by omega) (by rw [mem_ends hxn]; exact HOP.out)).mono ?_
                    rintro e u3 ⟨rfl, hb_u3⟩
                    have HB_u3 : Hid (Below x4.heap.size x4 u3) := HB_u2.out.trans (hb_u3.out.mono HB_u2.out.size)
                    clear hb_u3
                    go_wp2
                    go_roundw
                    case rel => exact ⟨v + 1, by go_num, by omega, HB_u3⟩
                    case measure => simp [intOf]; omega
                · cases qt
                  · cases qu
                    · go_wp2_with fail
                      refine (in_q _ _ b2 m2 k2 _ (v : Int) true _ (HRW2.out _ HBK.out) HL2.out (by omega) (by rw [mem_ends hxn]; exact HSV.out)).mono ?_
                      rintro e u0 ⟨rfl, hb_u0⟩
                      have HB_u0 : Hid (Below x4.heap.size x4 u0) := HBK.out.trans (hb_u0.out.mono HBK.out.size)
                      clear hb_u0
                      go_wp2_with fail
                      refine (in_q _ _ b3 m3 k3 _ (v : Int) false _ (HRW3.out _ HB_u0.out) HL3.out (by omega) (by rw [mem_ends hxn]; exact HAL.out)).mono ?_
                      rintro e u1 ⟨rfl, hb_u1⟩
                      have HB_u1 : Hid (Below x4.heap.size x4 u1) := HB_u0.out.trans (hb_u1.out.mono HB_u0.out.size)
                      clear hb_u1
                      go_wp2_with fail
                      refine (in_q _ _ b0 m0 k0 _ (v : Int) false _ (HRW0.out _ HB_u1.out) HL0.out (by omega) (by rw [mem_ends hxn]; exact HQT.out)).mono ?_
                      rintro e u2 ⟨rfl, hb_u2⟩
                      have HB_u2 : Hid (Below x4.heap.size x4 u2) := HB_u1.out.trans (hb_u2.out.mono HB_u1.out.size)
                      clear hb_u2
                      go_wp2_with fail
                      refine (in_q _ _ b1 m1 k1 _ (v : Int) false _ (HRW1.out _ HB_u2.out) HL1.out (by omega) (by rw [mem_ends hxn]; exact HQU.out)).mono ?_
                      rintro e u3 ⟨rfl, hb_u3⟩
                      have HB_u3 : Hid (Below x4.heap.size x4 u3) := HB_u2.out.trans (hb_u3.out.mono HB_u2.out.size)
                      clear hb_u3
                      go_wp2_with fail
                      refine (in_q _ _ b4 m4 k4 _ (v : Int) true _ (HRW4.out _ HB_u3.out) HL4.out (by omega) (by rw [mem_ends hxn]; exact HOP.out)).mono ?_
                      rintro e u4 ⟨rfl, hb_u4⟩
                      have HB_u4 : Hid (Below x4.heap.size x4 u4) := HB_u3.out.trans (hb_u4.out.mono HB_u3.out.size)
                      clear hb_u4
                      go_wp2
                      go_roundw
                      case rel => exact ⟨v + 1, by go_num, by omega, HB_u4⟩
                      case measure => simp [intOf]; omega
                    · go_wp2_with fail
                      refine (in_q _ _ b2 m2 k2 _ (v : Int) true _ (HRW2.out _ HBK.out) HL2.out (by omega) (by rw [mem_ends hxn]; exact HSV.out)).mono ?_
                      rintro e u0 ⟨rfl, hb_u0⟩
                      have HB_u0 : Hid (Below x4.heap.size x4 u0) := HBK.out.trans (hb_u0.out.mono HBK.out.size)
                      clear hb_u0
                      go_wp2_with fail
                      refine (in_q _ _ b3 m3 k3 _ (v : Int) true _ (HRW3.out _ HB_u0.out) HL3.out (by omega) (by rw [mem_ends hxn]; exact HAL.out)).mono ?_
                      rintro e u1 ⟨rfl, hb_u1⟩
                      have HB_u1 : Hid (Below x4.heap.size x4 u1) := HB_u0.out.trans (hb_u1.out.mono HB_u0.out.size)
                      clear hb_u1
                      go_wp2_with fail
                      refine (in_q _ _ b0 m0 k0 _ (v : Int) false _ (HRW0.out _ HB_u1.out) HL0.out (by omega) (by rw [mem_ends hxn]; exact HQT.out)).mono ?_
                      rintro e u2 ⟨rfl, hb_u2⟩
                      have HB_u2 : Hid (Below x4.heap.size x4 u2) := HB_u1.out.trans (hb_u2.out.mono HB_u1.out.size)
                      clear hb_u2
                      go_wp2_with fail
                      refine (in_q _ _ b1 m1 k1 _ (v : Int) true _ (HRW1.out _ HB_u2.out) HL1.out (by omega) (by rw [mem_ends hxn]; exact HQU.out)).mono ?_
                      rintro e u3 ⟨rfl, hb_u3⟩
                      have HB_u3 : Hid (Below x4.heap.size x4 u3) := HB_u2.out.trans (hb_u3.out.mono HB_u2.out.size)
                      clear hb_u3
                      go_wp2_with fail
                      refine (in_q _ _ b4 m4 k4 _ (v : Int) true _ (HRW4.out _ HB_u3.out) HL4.out (by omega) (by rw [mem_ends hxn]; exact HOP.out)).mono ?_
                      rintro e u4 ⟨rfl, hb_u4⟩
                      have HB_u4 : Hid (Below x4.heap.size x4 u4) := HB_u3.out.trans (hb_u4.out.mono HB_u3.out.size)
                      clear hb_u4
                      go_wp2
                      go_roundw
                      case rel => exact ⟨v + 1, by go_num, by omega, HB_u4⟩
                      case measure => simp [intOf]; omega
                  · go_wp2_with fail
                    refine (in_q _ _ b2 m2 k2 _ (v : Int) true _ (HRW2.out _ HBK.out) HL2.out (by omega) (by rw [mem_ends hxn]; exact HSV.out)).mono ?_
                    rintro e u0 ⟨rfl, hb_u0⟩
                    have HB_u0 : Hid (Below x4.heap.size x4 u0) := HBK.out.trans (hb_u0.out.mono HBK.out.size)
                    clear hb_u0
                    go_wp2_with fail
                    refine (in_q _ _ b3 m3 k3 _ (v : Int) true _ (HRW3.out _ HB_u0.out) HL3.out (by omega) (by rw [mem_ends hxn]; exact HAL.out)).mono ?_
                    rintro e u1 ⟨rfl, hb_u1⟩
                    have HB_u1 : Hid (Below x4.heap.size x4 u1) := HB_u0.out.trans (hb_u1.out.mono HB_u0.out.size)
                    clear hb_u1
                    go_wp2_with fail
                    refine (in_q _ _ b0 m0 k0 _ (v : Int) true _ (HRW0.out _ HB_u1.out) HL0.out (by omega) (by rw [mem_ends hxn]; exact HQT.out)).mono ?_
                    rintro e u2 ⟨rfl, hb_u2⟩
                    have HB_u2 : Hid (Below x4.heap.size x4 u2) := HB_u1.out.trans (hb_u2.out.mono HB_u1.out.size)
                    clear hb_u2
                    go_wp2_with fail
                    refine (in_q _ _ b4 m4 k4 _ (v : Int) true _ (HRW4.out _ HB_u2.out) HL4.out (by omega) (by rw [mem_ends hxn]; exact HOP.out)).mono ?_
                    rintro e u3 ⟨rfl, hb_u3⟩
                    have HB_u3 : Hid (Below x4.heap.size x4 u3) := HB_u2.out.trans (hb_u3.out.mono HB_u2.out.size)
                    clear hb_u3
                    go_wp2
                    go_roundw
                    case rel => exact ⟨v + 1, by go_num, by omega, HB_u3⟩
                    case measure => simp [intOf]; omega
              · have HVX : Hid (decide (v = x) = false) := by show _ = _; simp; omega
                rw [HVX.out] at HOP
                cases sq
                · cases qt
                  · cases qu
                    · go_wp2_with fail
                      refine (in_q _ _ b2 m2 k2 _ (x : Int) false _ (HRW2.out _ HBK.out) HL2.out (by omega) (by rw [mem_ends hxn]; exact HSV.out)).mono ?_
                      rintro e u0 ⟨rfl, hb_u0⟩
                      have HB_u0 : Hid (Below x4.heap.size x4 u0) := HBK.out.trans (hb_u0.out.mono HBK.out.size)
                      clear hb_u0
                      go_wp2_with fail
                      refine (in_q _ _ b3 m3 k3 _ (x : Int) false _ (HRW3.out _ HB_u0.out) HL3.out (by omega) (by rw [mem_ends hxn]; exact HAL.out)).mono ?_
                      rintro e u1 ⟨rfl, hb_u1⟩
                      have HB_u1 : Hid (Below x4.heap.size x4 u1) := HB_u0.out.trans (hb_u1.out.mono HB_u0.out.size)
                      clear hb_u1
                      go_wp2_with fail
                      refine (in_q _ _ b0 m0 k0 _ (x : Int) false _ (HRW0.out _ HB_u1.out) HL0.out (by omega) (by rw [mem_ends hxn]; exact HQT.out)).mono ?_
                      rintro e u2 ⟨rfl, hb_u2⟩
                      have HB_u2 : Hid (Below x4.heap.size x4 u2) := HB_u1.out.trans (hb_u2.out.mono HB_u1.out.size)
                      clear hb_u2
                      go_wp2_with fail
                      refine (in_q _ _ b1 m1 k1 _ (x : Int) false _ (HRW1.out _ HB_u2.out) HL1.out (by omega) (by rw [mem_ends hxn]; exact HQU.out)).mono ?_
                      rintro e u3 ⟨rfl, hb_u3⟩
                      have HB_u3 : Hid (Below x4.heap.size x4 u3) := HB_u2.out.trans (hb_u3.out.mono HB_u2.out.size)
                      clear hb_u3
                      go_wp2_with fail
                      refine (in_q _ _ b4 m4 k4 _ (x : Int) false _ (HRW4.out _ HB_u3.out) HL4.out (by omega) (by rw [mem_ends hxn]; exact HOP.out)).mono ?_
                      rintro e u4 ⟨rfl, hb_u4⟩
                      have HB_u4 : Hid (Below x4.heap.size x4 u4) := HB_u3.out.trans (hb_u4.out.mono HB_u3.out.size)
                      clear hb_u4
                      go_wp2_with fail
                      refine (in_q _ _ b0 m0 k0 _ (x : Int) false _ (HRW0.out _ HB_u4.out) HL0.out (by omega) (by rw [mem_ends hxn]; exact HQT.out)).mono ?_
                      rintro e u5 ⟨rfl, hb_u5⟩
                      have HB_u5 : Hid (Below x4.heap.size x4 u5) := HB_u4.out.trans (hb_u5.out.mono HB_u4.out.size)
                      clear hb_u5
                      go_wp2
                      go_roundw
                      case rel => exact ⟨x + 1, by go_num, by omega, HB_u5⟩
                      case measure => simp [intOf]; omega
                    · go_wp2_with fail
                      refine (in_q _ _ b2 m2 k2 _ (x : Int) false _ (HRW2.out _ HBK.out) HL2.out (by omega) (by rw [mem_ends hxn]; exact HSV.out)).mono ?_
                      rintro e u0 ⟨rfl, hb_u0⟩
                      have HB_u0 : Hid (Below x4.heap.size x4 u0) := HBK.out.trans (hb_u0.out.mono HBK.out.size)
                      clear hb_u0
                      go_wp2_with fail
                      refine (in_q _ _ b3 m3 k3 _ (x : Int) true _ (HRW3.out _ HB_u0.out) HL3.out (by omega) (by rw [mem_ends hxn]; exact HAL.out)).mono ?_
                      rintro e u1 ⟨rfl, hb_u1⟩
                      have HB_u1 : Hid (Below x4.heap.size x4 u1) := HB_u0.out.trans (hb_u1.out.mono HB_u0.out.size)
                      clear hb_u1
                      go_wp2_with fail
                      refine (in_q _ _ b0 m0 k0 _ (x : Int) false _ (HRW0.out _ HB_u1.out) HL0.out (by omega) (by rw [mem_ends hxn]; exact HQT.out)).mono ?_
                      rintro e u2 ⟨rfl, hb_u2⟩
                      have HB_u2 : Hid (Below x4.heap.size x4 u2) := HB_u1.out.trans (hb_u2.out.mono HB_u1.out.size)
                      clear hb_u2
                      go_wp2_with fail
                      refine (in_q _ _ b1 m1 k1 _ (x : Int) true _ (HRW1.out _ HB_u2.out) HL1.out (by omega) (by rw [mem_ends hxn]; exact HQU.out)).mono ?_
                      rintro e u3 ⟨rfl, hb_u3⟩
                      have HB_u3 : Hid (Below x4.heap.size x4 u3) := HB_u2.out.trans (hb_u3.out.mono HB_u2.out.size)
                      clear hb_u3
                      go_wp2_with fail
                      refine (in_q _ _ b4 m4 k4 _ (x : Int) false _ (HRW4.out _ HB_u3.out) HL4.out (by omega) (by rw [mem_ends hxn]; exact HOP.out)).mono ?_
                      rintro e u4 ⟨rfl, hb_u4⟩
                      have HB_u4 : Hid (Below x4.heap.size x4 u4) := HB_u3.out.trans (hb_u4.out.mono HB_u3.out.size)
                      clear hb_u4
                      go_wp2_with fail
                      refine (in_q _ _ b0 m0 k0 _ (x : Int) false _ (HRW0.out _ HB_u4.out) HL0.out (by omega) (by rw [mem_ends hxn]; exact HQT.out)).mono ?_
                      rintro e u5 ⟨rfl, hb_u5⟩
                      have HB_u5 : Hid (Below x4.heap.size x4 u5) := HB_u4.out.trans (hb_u5.out.mono HB_u4.out.size)
                      clear hb_u5
                      go_wp2
                      go_roundw
                      case rel => exact ⟨x + 1, by go_num, by omega, HB_u5⟩
                      case measure => simp [intOf]; omega
                  · go_wp2_with fail
                    refine (in_q _ _ b2 m2 k2 _ (x : Int) false _ (HRW2.out _ HBK.out) HL2.out (by omega) (by rw [mem_ends hxn]; exact HSV.out)).mono ?_
                    rintro e u0 ⟨rfl, hb_u0⟩
                    have HB_u0 : Hid (Below x4.heap.size x4 u0) := HBK.out.trans (hb_u0.out.mono HBK.out.size)
                    clear hb_u0
                    go_wp2_with fail
                    refine (in_q _ _ b3 m3 k3 _ (x : Int) true _ (HRW3.out _ HB_u0.out) HL3.out (by omega) (by rw [mem_ends hxn]; exact HAL.out)).mono ?_
                    rintro e u1 ⟨rfl, hb_u1⟩
                    have HB_u1 : Hid (Below x4.heap.size x4 u1) := HB_u0.out.trans (hb_u1.out.mono HB_u0.out.size)
                    clear hb_u1
                    go_wp2_with fail
                    refine (in_q _ _ b0 m0 k0 _ (x : Int) true _ (HRW0.out _ HB_u1.out) HL0.out (by omega) (by rw [mem_ends hxn]; exact HQT.out)).mono ?_
                    rintro e u2 ⟨rfl, hb_u2⟩
                    have HB_u2 : Hid (Below x4.heap.size x4 u2) := HB_u1.out.trans (hb_u2.out.mono HB_u1.out.size)
                    clear hb_u2
                    go_wp2_with fail
                    refine (in_q _ _ b4 m4 k4 _ (x : Int) true _ (HRW4.out _ HB_u2.out) HL4.out (by omega) (by rw [mem_ends hxn]; exact HOP.out)).mono ?_
                    rintro e u3 ⟨rfl, hb_u3⟩
                    have HB_u3 : Hid (Below x4.heap.size x4 u3) := HB_u2.out.trans (hb_u3.out.mono HB_u2.out.size)
                    clear hb_u3
                    go_wp2_with fail
                    refine (in_q _ _ b0 m0 k0 _ (x : Int) true _ (HRW0.out _ HB_u3.out) HL0.out (by omega) (by rw [mem_ends hxn]; exact HQT.out)).mono ?_
                    rintro e u4 ⟨rfl, hb_u4⟩
                    have HB_u4 : Hid (Below x4.heap.size x4 u4) := HB_u3.out.trans (hb_u4.out.mono HB_u3.out.size)
                    clear hb_u4
                    go_wp2
                    go_roundw
                    case rel => exact ⟨x + 1, by go_num, by omega, HB_u4⟩
                    case measure => simp [intOf]; omega
                · cases qt
                  · cases qu
                    · go_wp2_with fail
                      refine (in_q _ _ b2 m2 k2 _ (x : Int) true _ (HRW2.out _ HBK.out) HL2.out (by omega) (by rw [mem_ends hxn]; exact HSV.out)).mono ?_
                      rintro e u0 ⟨rfl, hb_u0⟩
                      have HB_u0 : Hid (Below x4.heap.size x4 u0) := HBK.out.trans (hb_u0.out.mono HBK.out.size)
                      clear hb_u0
                      go_wp2_with fail
                      refine (in_q _ _ b3 m3 k3 _ (x : Int) false _ (HRW3.out _ HB_u0.out) HL3.out (by omega) (by rw [mem_ends hxn]; exact HAL.out)).mono ?_
                      rintro e u1 ⟨rfl, hb_u1⟩
                      have HB_u1 : Hid (Below x4.heap.size x4 u1) := HB_u0.out.trans (hb_u1.out.mono HB_u0.out.size)
                      clear hb_u1
                      go_wp2_with fail
                      refine (in_q _ _ b0 m0 k0 _ (x : Int) false _ (HRW0.out _ HB_u1.out) HL0.out (by omega) (by rw [mem_ends hxn]; exact HQT.out)).mono ?_
                      rintro e u2 ⟨rfl, hb_u2⟩
                      have HB_u2 : Hid (Below x4.heap.size x4 u2) := HB_u1.out.trans (hb_u2.out.mono HB_u1.out.size)
                      clear hb_u2
                      go_wp2_with fail
                      refine (in_q _ _ b1 m1 k1 _ (x : Int) false _ (HRW1.out _ HB_u2.out) HL1.out (by omega) (by rw [mem_ends hxn]; exact HQU.out)).mono ?_
                      rintro e u3 ⟨rfl, hb_u3⟩
                      have HB_u3 : Hid (Below x4.heap.size x4 u3) := HB_u2.out.trans (hb_u3.out.mono HB_u2.out.size)
                      clear hb_u3
                      go_wp2_with fail
                      refine (in_q _ _ b4 m4 k4 _ (x : Int) false _ (HRW4.out _ HB_u3.out) HL4.out (by omega) (by rw [mem_ends hxn]; exact HOP.out)).mono ?_
                      rintro e u4 ⟨rfl, hb_u4⟩
                      have HB_u4 : Hid (Below x4.heap.size x4 u4) := HB_u3.out.trans (hb_u4.out.mono HB_u3.out.size)
                      clear hb_u4
                      go_wp2_with fail
                      refine (in_q _ _ b0 m0 k0 _ (x : Int) false _ (HRW0.out _ HB_u4.out) HL0.out (by omega) (by rw [mem_ends hxn]; exact HQT.out)).mono ?_
                      rintro e u5 ⟨rfl, hb_u5⟩
                      have HB_u5 : Hid (Below x4.heap.size x4 u5) := HB_u4.out.trans (hb_u5.out.mono HB_u4.out.size)
                      clear hb_u5
                      go_wp2
                      go_roundw
                      case rel => exact ⟨x + 1, by go_num, by omega, HB_u5⟩
                      case measure => simp [intOf]; omega
                    · go_wp2_with fail
                      refine (in_q _ _ b2 m2 k2 _ (x : Int) true _ (HRW2.out _ HBK.out) HL2.out (by omega) (by rw [mem_ends hxn]; exact HSV.out)).mono ?_
                      rintro e u0 ⟨rfl, hb_u0⟩
                      have HB_u0 : Hid (Below x4.heap.size x4 u0) := HBK.out.trans (hb_u0.out.mono HBK.out.size)
                      clear hb_u0
                      go_wp2_with fail
                      refine (in_q _ _ b3 m3 k3 _ (x : Int) true _ (HRW3.out _ HB_u0.out) HL3.out (by omega) (by rw [mem_ends hxn]; exact HAL.out)).mono ?_
                      rintro e u1 ⟨rfl, hb_u1⟩
                      have HB_u1 : Hid (Below x4.heap.size x4 u1) := HB_u0.out.trans (hb_u1.out.mono HB_u0.out.size)
                      clear hb_u1
                      go_wp2_with fail
                      refine (in_q _ _ b0 m0 k0 _ (x : Int) false _ (HRW0.out _ HB_u1.out) HL0.out (by omega) (by rw [mem_ends hxn]; exact HQT.out)).mono ?_
                      rintro e u2 ⟨rfl, hb_u2⟩
                      have HB_u2 : Hid (Below x4.heap.size x4 u2) := HB_u1.out.trans (hb_u2.out.mono HB_u1.out.size)
                      clear hb_u2
                      go_wp2_with fail
                      refine (in_q _ _ b1 m1 k1 _ (x : Int) true _ (HRW1.out _ HB_u2.out) HL1.out (by omega) (by rw [mem_ends hxn]; exact HQU.out)).mono ?_
                      rintro e u3 ⟨rfl, hb_u3⟩
                      have HB_u3 : Hid (Below x4.heap.size x4 u3) := HB_u2.out.trans (hb_u3.out.mono HB_u2.out.size)
                      clear hb_u3
                      go_wp2_with fail
                      refine (in_q _ _ b4 m4 k4 _ (x : Int) false _ (HRW4.out _ HB_u3.out) HL4.out (by omega) (by rw [mem_ends hxn]; exact HOP.out)).mono ?_
                      rintro e u4 ⟨rfl, hb_u4⟩
                      have HB_u4 : Hid (Below x4.heap.size x4 u4) := HB_u3.out.trans (hb_u4.out.mono HB_u3.out.size)
                      clear hb_u4
                      go_wp2_with fail
                      refine (in_q _ _ b0 m0 k0 _ (x : Int) false _ (HRW0.out _ HB_u4.out) HL0.out (by omega) (by rw [mem_ends hxn]; exact HQT.out)).mono ?_
                      rintro e u5 ⟨rfl, hb_u5⟩
                      have HB_u5 : Hid (Below x4.heap.size x4 u5) := HB_u4.out.trans (hb_u5.out.mono HB_u4.out.size)
                      clear hb_u5
                      go_wp2
                      go_roundw
                      case rel => exact ⟨x + 1, by go_num, by omega, HB_u5⟩
                      case measure => simp [intOf]; omega
                  · go_wp2_with fail
                    refine (in_q _ _ b2 m2 k2 _ (x : Int) true _ (HRW2.out _ HBK.out) HL2.out (by omega) (by rw [mem_ends hxn]; exact HSV.out)).mono ?_
                    rintro e u0 ⟨rfl, hb_u0⟩
                    have HB_u0 : Hid (Below x4.heap.size x4 u0) := HBK.out.trans (hb_u0.out.mono HBK.out.size)
                    clear hb_u0
                    go_wp2_with fail
                    refine (in_q _ _ b3 m3 k3 _ (x : Int) true _ (HRW3.out _ HB_u0.out) HL3.out (by omega) (by rw [mem_ends hxn]; exact HAL.out)).mono ?_
                    rintro e u1 ⟨rfl, hb_u1⟩
                    have HB_u1 : Hid (Below x4.heap.size x4 u1) := HB_u0.out.trans (hb_u1.out.mono HB_u0.out.size)
                    clear hb_u1
                    go_wp2_with fail
                    refine (in_q _ _ b0 m0 k0 _ (x : Int) true _ (HRW0.out _ HB_u1.out) HL0.out (by omega) (by rw [mem_ends hxn]; exact HQT.out)).mono ?_
                    rintro e u2 ⟨rfl, hb_u2⟩
                    have HB_u2 : Hid (Below x4.heap.size x4 u2) := HB_u1.out.trans (hb_u2.out.mono HB_u1.out.size)
                    clear hb_u2
                    go_wp2_with fail
                    refine (in_q _ _ b4 m4 k4 _ (x : Int) true _ (HRW4.out _ HB_u2.out) HL4.out (by omega) (by rw [mem_ends hxn]; exact HOP.out)).mono ?_
                    rintro e u3 ⟨rfl, hb_u3⟩
                    have HB_u3 : Hid (Below x4.heap.size x4 u3) := HB_u2.out.trans (hb_u3.out.mono HB_u2.out.size)
                    clear hb_u3
                    go_wp2_with fail
                    refine (in_q _ _ b0 m0 k0 _ (x : Int) true _ (HRW0.out _ HB_u3.out) HL0.out (by omega) (by rw [mem_ends hxn]; exact HQT.out)).mono ?_
                    rintro e u4 ⟨rfl, hb_u4⟩
                    have HB_u4 : Hid (Below x4.heap.size x4 u4) := HB_u3.out.trans (hb_u4.out.mono HB_u3.out.size)
                    clear hb_u4
                    go_wp2
                    go_roundw
                    case rel => exact ⟨x + 1, by go_num, by omega, HB_u4⟩
                    case measure => simp [intOf]; omega
        · have hxn1 : ¬ (x : Int) < (NN : Int) := by omega
          have HBF : Hid (Below W1.heap.size W1 X) := HBX4.out.trans (HBx.out.mono HBX4.out.size)
          go_wp2
          go_roundw
          case rel => exact ⟨v + 1, by go_num, by omega, HBF⟩
          case measure => simp [intOf]; omega
    · have hvn1 : ¬ (v : Int) < (NN : Int) := by omega
      have HPB := readP_ok HTR.out
      have hPL := (okP_len HTO.out).2
      go_wp2_with fail
      refine (readPath_any TT V (by omega)).mono ?_
      rintro e w5 ⟨a5, n5, c5, r5, rfl, HR5, HL5, HO5, HB5⟩
      rw [HTR.out] at HR5 HL5 HO5
      obtain rfl : r5 = true := HR5.out
      have HN5 : Hid (PT.length = n5) := HL5
      have HP5 : Hid (PathOwn V.heap.size w5.heap.size w5 a5 PT) := HO5
      clear HL5 HO5 HR5
      obtain ⟨W5, HW5⟩ : ∃ W5, Hid (W5 = w5.alloc (.cells #[.slice a5 n5 c5] 36)) := ⟨_, rfl⟩
      have HBW5 : Hid (Below w5.heap.size w5 W5) := by rw [HW5.out]; exact below1 _ _
      have HX5 : Hid (Blk W5 w5.heap.size 1 (fun _ => .slice a5 n5 c5)) := by rw [HW5.out]; exact blk_one w5 _ rfl _ _
      have HPI : Hid (PathIn V.heap.size w5.heap.size W5 a5 PT) := HP5.out.toIn.below HBW5.out (Nat.le_refl _)
      have HBE : Hid (Below w.heap.size w W5) := HBW1.out.trans ((HBV.out.trans ((HB5.out.trans (HBW5.out.mono HB5.out.size)).mono HBV.out.size)).mono HBW1.out.size)
      unfold pv
      go_upto_region 26 with fail
      rw [← HW5.out]
      clear HW5
      have x0 := HX5.out.cell (i := 0) (by omega)
      have hn5 : n5 ≤ 60 := by rw [← HN5.out]; exact hPL
      go_wp2_with fail
      refine (pathOk_any V.heap.size w5.heap.size a5 n5 c5 PT true W5 HPI.out HBW5.out.size HN5.out (by omega) (by rw [← HN5.out]; exact fun i hi => Nat.le_trans (HPB.2.pat hi) (by omega)) HTO.out.symm).mono ?_
      rintro e w6 ⟨rfl, HB6⟩
      go_wp2
      go_ret
      exact ⟨rfl, HBE.out.trans (HB6.out.mono HBE.out.size)⟩
end Go.Proofs.Ytdbogikcmfnpdaa

namespace Go.Proofs.Ytdbogikcmfnpdaa.fnPathEnds
open Go.ChangeShapes Go.WideShapes Go.ChangeAt Go.RowKit
open Go.ChangeMaps (open_string shut_string)
set_option linter.unusedVariables false

theorem own : ownKnob Try.prog.godebug = none := by kernel_rfl
theorem laidOut : laidOutB Try.prog = true := by kernel_rfl

set_option maxRecDepth 100000 in
theorem lifted (os : Os) (started : os.Started) (H : Type) (enc : TypeId × Value → H) :
    ReturnsInHanded {} Try.checked os 3 .any (Rows.fnPathEndsSpec.pre6 enc Try.prog Try.f3 Rows.fnPathEndsRow.domain false) (Rows.fnPathEndsSpec.post enc Try.prog Try.f3 false true false false) := by
  refine returnsInHanded_of_change (C := Try.checked) own started (by kernel_rfl) Try.func3
    (ChangeSpec.witness6 (enc := enc) (C := Try.checked) false ⟨#[], #[.slice none 0 0], []⟩ 8 (by kernel_rfl) (by kernel_rfl) (by kernel_rfl) (by kernel_rfl)) ?_
  intro W base args ds gs before hval0 hW hcnd _
  have hval : ∀ (j : Nat) t v, Try.f3.params[j]? = some t → args[j]? = some v → Value.okWide Try.prog W .any base t v := hval0
  have hW' := hW
  obtain ⟨p, q, hA0, hV, rfl, hfz, hnd⟩ := hW
  have hA : DataW.TrodAll enc Try.prog W 0 (fun _ => true) true Try.f3.params.toList args.toList ds p := hA0
  rw [Try.params3] at hA hval
  obtain ⟨v0, vs0, d0, ds0, p0, q0, hargs, rfl, rfl, h0, r0⟩ := trodAll_cons hA
  obtain ⟨rfl, rfl, rfl⟩ := trodAll_nil r0
  obtain rfl : args = #[v0] := by cases args; simp_all
  obtain ⟨rfl, rfl⟩ := trodVars_none hV
  have k0 := h0
  have lt0 : ∀ x ∈ p0, x.block < W.heap.size := by obtain ⟨m, hm⟩ := k0; exact DataW.trod_lt m _ _ _ hm
  obtain ⟨a0, n0, cap0, rfl⟩ := okWide_slice Try.underlying22 (hval 0 22 v0 rfl rfl)
  have hc0 := code_in k0
  clear hA0 hval0
  refine (law_3 a0 n0 cap0 W hc0).mono fun e W' ⟨he, bel⟩ => ?_
  subst he
  exact ⟨_, rfl, _, _, _, [], _, [], hW', trodAll_mk1 (shut_bool Try.underlying4 _), (trodAll_cons_mk (Below.trod laidOut (by kernel_rfl) (of_decide_eq_true (by kernel_rfl)) k0 bel lt0) trodAll_mk0), rfl, bel.frame _, fun h => by cases h⟩

theorem over : Rows.fnPathEndsRow.holds Try.pinned (OpenSpec.ofChange Rows.fnPathEndsSpec) :=
  OpenClaim.holds_of_wide 3 Try.f3 rfl rfl rfl rfl rfl rfl rfl ⟨rfl, rfl, rfl, rfl, rfl⟩ rfl rfl rfl rfl rfl (by kernel_rfl) Try.func3 (by kernel_rfl)
    (of_decide_eq_true (by kernel_rfl)) (by unfold Func.isWrapper; first | (rw [if_pos (by decide +kernel)]; kernel_rfl) | (rw [if_neg (by decide +kernel)]; exact ⟨rfl, rfl⟩))
    (fun os started H enc _ => lifted os started H enc)

end Go.Proofs.Ytdbogikcmfnpdaa.fnPathEnds
namespace Go.Proofs.Ytdbogikcmfnpdaa

theorem fnPathEnds_holds : Rows.FnPathEndsSaid := fnPathEnds.over
#print axioms fnPathEnds_holds
end Go.Proofs.Ytdbogikcmfnpdaa
