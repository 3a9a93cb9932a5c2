import Derived.Test.YtbepmeipjdpipaaGreatJn05
import Derived.Test.YtbepmeipjdpipaaGreatJn03
import Derived.Test.YtbepmeipjdpipaaGreatJn04
import Derived.Deep.RegionHeld3
namespace Go.Proofs.YtbepmeipjdpipaaGreat
open Go.RowKit

theorem okTo_all {l : List Pc} : ∀ {n : Nat}, okToP l n = true → ∀ i, i < n → formOk (pat l i) = true ∧ kidsOk i (pat l i).2.2 = true
  | 0, _, i, h => by omega
  | n + 1, ho, i, h => by
    unfold okToP at ho
    rw [Bool.and_eq_true, Bool.and_eq_true] at ho
    by_cases e : i < n
    · exact okTo_all ho.1 i e
    · obtain rfl : i = n := by omega
      exact ho.2
theorem okP_all {l : List Pc} (h : okP l = true) : 1 ≤ l.length ∧ l.length ≤ 60 ∧ ∀ i, i < l.length → formOk (pat l i) = true ∧ kidsOk i (pat l i).2.2 = true := by
  unfold okP at h
  simp only [Bool.and_eq_true, decide_eq_true_eq] at h
  exact ⟨h.1.1, h.1.2, okTo_all h.2⟩
theorem nodup_ltN : ∀ (n : Nat) (l : List Nat), l.Nodup → (∀ x, x ∈ l → x < n) → l.length ≤ n
  | 0, l, _, h => by
    cases l with
    | nil => exact Nat.le_refl _
    | cons x l => exact absurd (h x (List.mem_cons_self ..)) (by omega)
  | n + 1, l, hn, h => by
    by_cases hm : n ∈ l
    · have h1 := nodup_ltN n (l.erase n) (hn.erase n) (fun x hx => by
        have h2 := (List.Nodup.mem_erase_iff hn).1 hx
        have h3 := h x h2.2
        have h4 := h2.1
        omega)
      have h2 := List.length_erase_of_mem hm
      omega
    · have h1 := nodup_ltN n l hn (fun x hx => by
        have h3 := h x hx
        by_cases e : x = n
        · subst e; exact absurd hx hm
        · omega)
      omega
def nfS (ps : List Pc) : MkS × Lk := lookK ps ps.length (ps.length - 1) ⟨[], [], false⟩
def nfT (ps : List Pc) : SeS × SeK := seatB ps ps.length (ps.length - 1) ⟨[], fun _ _ => false⟩
def nfN (ps : List Pc) : Nat := cntK ps ps.length (ps.length - 1)
def nfG (ps : List Pc) : Bool := okP ps && decide (nfN ps < 24)
def nfA (ps : List Pc) : List Ed := joinF (nfS ps).1.lb [0] (nfS ps).2.fi (nfS ps).1.ar
def nfF (ps : List Pc) : Nat → Bool := fun i => if i = 0 then (nfS ps).2.nl else decide ((i : Int) ∈ (nfS ps).2.la)
def nfE (ps : List Pc) : List Bool := (List.range ((nfS ps).1.lb.length + 1)).map (nfF ps)
theorem nfE_len (ps : List Pc) : (nfE ps).length = (nfS ps).1.lb.length + 1 := by simp [nfE]
theorem mkOk0 : MkOk ⟨[], [], false⟩ := ⟨by simp, rfl, fun x h => by simp at h, List.Pairwise.nil, fun x h => by simp at h⟩
theorem nfS_ok {ps : List Pc} (h : okP ps = true) : LkOk ⟨[], [], false⟩ (nfN ps) (nfS ps) := by
  obtain ⟨h1, h2, h3⟩ := okP_all h
  exact lookK_ok ps h3 ps.length (ps.length - 1) (by omega) (by omega) _ mkOk0 rfl
theorem nfS_len {ps : List Pc} (h : okP ps = true) : (nfS ps).1.lb.length = min 24 (nfN ps) := by
  have h1 := (nfS_ok h).len
  simpa using h1
theorem nfS_bad {ps : List Pc} (h : okP ps = true) : (nfS ps).1.bad = !decide (nfN ps < 24) := by
  rw [(nfS_ok h).ok.bad, nfS_len h]
  by_cases e : nfN ps < 24
  · rw [decide_eq_false (by omega), decide_eq_true e]; rfl
  · rw [decide_eq_true (by omega), decide_eq_false e]; rfl
theorem nfA_srt {ps : List Pc} (h : okP ps = true) : SrtE (nfA ps) := srt_joinF (nfS_ok h).ok.srt
theorem nfA_mem {ps : List Pc} (h : okP ps = true) {x : Ed} : x ∈ nfA ps ↔ (∃ f t : Nat, f ≤ (nfS ps).1.lb.length ∧ 1 ≤ t ∧ t ≤ (nfS ps).1.lb.length ∧ x = ((f : Int), (nfS ps).1.lb.getD (t - 1) 0, (t : Int)) ∧ (if f = 0 then (t : Int) ∈ (nfS ps).2.fi else x ∈ (nfS ps).1.ar)) := by
  have hk := nfS_ok h
  unfold nfA
  rw [mem_joinF]
  constructor
  · rintro (hx | ⟨f, t, hf, ht, rfl⟩)
    · obtain ⟨f, t, a1, a2, a3, a4, e⟩ := hk.ok.arc x hx
      exact ⟨f, t, a2, a3, a4, e, by rw [if_neg (by omega)]; exact hx⟩
    · obtain ⟨u, b1, b2, rfl⟩ := hk.fi.2 t ht
      have hf0 : f = 0 := by simpa using hf
      subst hf0
      exact ⟨0, u, Nat.zero_le _, by omega, b2, by unfold lbAt; simp, by rw [if_pos rfl]; exact ht⟩
  · rintro ⟨f, t, a1, a2, a3, rfl, hx⟩
    by_cases e : f = 0
    · subst e
      rw [if_pos rfl] at hx
      exact .inr ⟨0, (t : Int), by simp, hx, by unfold lbAt; simp⟩
    · rw [if_neg e] at hx
      exact .inl hx
theorem nfS_lab {ps : List Pc} (h : okP ps = true) {t : Nat} (h1 : 1 ≤ t) (h2 : t ≤ (nfS ps).1.lb.length) : 97 ≤ (nfS ps).1.lb.getD (t - 1) 0 ∧ (nfS ps).1.lb.getD (t - 1) 0 ≤ 100 := by
  refine (nfS_ok h).ok.lbl _ ?_
  rw [List.getD, List.getElem?_eq_getElem (by omega)]
  exact List.getElem_mem _
theorem nfA_okE {ps : List Pc} (h : okP ps = true) {x : Ed} (hx : x ∈ nfA ps) : okE (((nfS ps).1.lb.length + 1 : Nat) : Int) x = true := by
  obtain ⟨f, t, a1, a2, a3, rfl, _⟩ := (nfA_mem h).1 hx
  have hl := nfS_lab h a2 a3
  unfold okE inV
  simp only [Bool.and_eq_true, decide_eq_true_eq]
  omega
theorem srt_at {l : List Ed} (h : SrtE l) {i : Nat} (h0 : i ≠ 0) (hi : i < l.length) : ltE (eat l (i - 1)) (eat l i) = true := by
  have h1 := List.pairwise_iff_getElem.1 h (i - 1) i (by omega) hi (by omega)
  simpa [eat, List.getD, hi, show i - 1 < l.length by omega] using h1
theorem okGTo_srt {s : Int} {l : List Ed} (hs : SrtE l) (h : ∀ x ∈ l, okE s x = true) : okGTo s l l.length = true :=
  okGTo_all fun k hk => by
    have hm : eat l k ∈ l := by rw [eat, List.getD, List.getElem?_eq_getElem hk]; exact List.getElem_mem _
    by_cases e : k = 0
    · subst e; exact okGAt_zero (h _ hm)
    · rw [okGAt_pos (h _ hm) e]; exact srt_at hs e hk
theorem nfA_ok {ps : List Pc} (h : okP ps = true) (hn : nfN ps < 24) : okN (((nfS ps).1.lb.length + 1 : Nat) : Int) (nfA ps) ((nfS ps).1.lb.length + 1) = true := by
  have hl := nfS_len h
  unfold okN
  rw [okGTo_srt (nfA_srt h) (fun x hx => nfA_okE h hx)]
  simp only [Bool.and_eq_true, decide_eq_true_eq, and_true]
  omega
theorem nfA_few {ps : List Pc} (h : okP ps = true) (hn : nfN ps < 24) : (nfA ps).length ≤ 576 := by
  have hl := nfS_len h
  have h1 : ((nfA ps).map fun x => x.1.toNat * 24 + x.2.2.toNat).Nodup := by
    refine List.pairwise_map.2 ((nfA_srt h).nodup.imp_of_mem fun {x y} hx hy hne => ?_)
    obtain ⟨f, t, a1, a2, a3, rfl, _⟩ := (nfA_mem h).1 hx
    obtain ⟨g, u, b1, b2, b3, rfl, _⟩ := (nfA_mem h).1 hy
    intro e
    simp only [Int.toNat_natCast] at e
    obtain ⟨rfl, rfl⟩ : f = g ∧ t = u := by omega
    exact hne rfl
  have h2 := nodup_ltN 576 _ h1 (fun k hk => by
    obtain ⟨x, hx, rfl⟩ := List.mem_map.1 hk
    obtain ⟨f, t, a1, a2, a3, rfl, _⟩ := (nfA_mem h).1 hx
    simp only [Int.toNat_natCast]
    omega)
  rwa [List.length_map] at h2

theorem nfT_tie {ps : List Pc} (h : okP ps = true) (hn : nfN ps < 24) : TieS (nfS ps).1 (nfT ps).1 ∧ TieK (nfS ps).2 (nfT ps).2 := by
  obtain ⟨h1, h2, h3⟩ := okP_all h
  exact tie_look ps h3 ps.length (ps.length - 1) (by omega) (by omega) _ _ mkOk0 rfl (by simpa [nfN] using hn) ⟨rfl, fun a b => by simp⟩
def arcRow (lb : List Int) (bh : Nat → Nat → Bool) (a : Nat) (n : Nat) : List Ed := ((List.range n).filter (bh a)).map fun b => ((a : Int), lb.getD b 0, (b : Int))
def arcTo (lb : List Int) (bh : Nat → Nat → Bool) (m : Nat) : List Ed := (List.range m).flatMap fun a => arcRow lb bh a 24
theorem arcRow_zero (lb : List Int) (bh : Nat → Nat → Bool) (a : Nat) : arcRow lb bh a 0 = [] := rfl
theorem arcRow_succ (lb : List Int) (bh : Nat → Nat → Bool) (a n : Nat) : arcRow lb bh a (n + 1) = arcRow lb bh a n ++ (if bh a n = true then [((a : Int), lb.getD n 0, (n : Int))] else []) := by
  unfold arcRow
  rw [List.range_succ, List.filter_append, List.map_append]
  by_cases e : bh a n = true <;> simp [e]
theorem arcTo_succ (lb : List Int) (bh : Nat → Nat → Bool) (m : Nat) : arcTo lb bh (m + 1) = arcTo lb bh m ++ arcRow lb bh m 24 := by
  unfold arcTo
  rw [List.range_succ, List.flatMap_append]
  simp
theorem arcRow_len (lb : List Int) (bh : Nat → Nat → Bool) (a n : Nat) : (arcRow lb bh a n).length ≤ n := by
  unfold arcRow
  rw [List.length_map]
  exact Nat.le_trans (List.length_filter_le _ _) (by simp)
theorem arcTo_len (lb : List Int) (bh : Nat → Nat → Bool) : ∀ m, (arcTo lb bh m).length ≤ m * 24
  | 0 => by simp [arcTo]
  | m + 1 => by
    rw [arcTo_succ, List.length_append]
    have h1 := arcTo_len lb bh m
    have h2 := arcRow_len lb bh m 24
    omega
theorem mem_arcRow {lb : List Int} {bh : Nat → Nat → Bool} {a n : Nat} {x : Ed} : x ∈ arcRow lb bh a n ↔ ∃ b, b < n ∧ bh a b = true ∧ x = ((a : Int), lb.getD b 0, (b : Int)) := by
  unfold arcRow
  rw [List.mem_map]
  constructor
  · rintro ⟨b, hb, rfl⟩
    have h := List.mem_filter.1 hb
    exact ⟨b, List.mem_range.1 h.1, h.2, rfl⟩
  · rintro ⟨b, h1, h2, rfl⟩
    exact ⟨b, List.mem_filter.2 ⟨List.mem_range.2 h1, h2⟩, rfl⟩
theorem mem_arcTo {lb : List Int} {bh : Nat → Nat → Bool} {m : Nat} {x : Ed} : x ∈ arcTo lb bh m ↔ ∃ a b, a < m ∧ b < 24 ∧ bh a b = true ∧ x = ((a : Int), lb.getD b 0, (b : Int)) := by
  unfold arcTo
  rw [List.mem_flatMap]
  constructor
  · rintro ⟨a, ha, hx⟩
    obtain ⟨b, h1, h2, rfl⟩ := mem_arcRow.1 hx
    exact ⟨a, b, List.mem_range.1 ha, h1, h2, rfl⟩
  · rintro ⟨a, b, h1, h2, h3, rfl⟩
    exact ⟨a, List.mem_range.2 h1, mem_arcRow.2 ⟨b, h2, h3, rfl⟩⟩
theorem nodup_arcRow (lb : List Int) (bh : Nat → Nat → Bool) (a : Nat) : ∀ n, (arcRow lb bh a n).Nodup
  | 0 => List.Pairwise.nil
  | n + 1 => by
    rw [arcRow_succ]
    refine List.nodup_append.2 ⟨nodup_arcRow lb bh a n, by split <;> simp, fun x hx y hy e => ?_⟩
    subst e
    obtain ⟨b, h1, _, rfl⟩ := mem_arcRow.1 hx
    split at hy
    · simp at hy; omega
    · simp at hy
theorem nodup_arcTo (lb : List Int) (bh : Nat → Nat → Bool) : ∀ m, (arcTo lb bh m).Nodup
  | 0 => List.Pairwise.nil
  | m + 1 => by
    rw [arcTo_succ]
    refine List.nodup_append.2 ⟨nodup_arcTo lb bh m, nodup_arcRow lb bh m 24, fun x hx y hy e => ?_⟩
    subst e
    obtain ⟨a, b, h1, _, _, rfl⟩ := mem_arcTo.1 hx
    obtain ⟨c, _, _, h4⟩ := mem_arcRow.1 hy
    simp at h4
    omega
def nfB (ps : List Pc) : Nat → Nat → Bool := fun a b => if a = 0 then (nfT ps).2.fi b else (nfT ps).1.bh a b
theorem arcs_are {ps : List Pc} (h : okP ps = true) (hn : nfN ps < 24) {L : List Ed} (hp : L.Perm (arcTo (0 :: (nfT ps).1.lb) (nfB ps) 24)) (hs : L.Pairwise fun x y => ltE y x = false) : L = nfA ps := by
  obtain ⟨h1, h2⟩ := nfT_tie h hn
  have hl := nfS_len h
  refine srtE_ext (srtE_of (hp.nodup_iff.2 (nodup_arcTo _ _ _)) hs) (nfA_srt h) fun x => ?_
  rw [hp.mem_iff, mem_arcTo, nfA_mem h, h1.1]
  have hget : ∀ t : Nat, 1 ≤ t → (0 :: (nfS ps).1.lb).getD t 0 = (nfS ps).1.lb.getD (t - 1) 0 := fun t ht => by
    obtain ⟨u, rfl⟩ : ∃ u, t = u + 1 := ⟨t - 1, by omega⟩
    simp [List.getD]
  constructor
  · rintro ⟨a, b, ha, hb, hB, rfl⟩
    unfold nfB at hB
    by_cases e : a = 0
    · subst e
      rw [if_pos rfl] at hB
      have hf := (h2.1 b).1 hB
      obtain ⟨t, t1, t2, t3⟩ := (nfS_ok h).fi.2 _ hf
      have hbt : b = t := by omega
      subst hbt
      refine ⟨0, b, Nat.zero_le _, by omega, t2, ?_, by rw [if_pos rfl]; exact hf⟩
      rw [hget b (by omega)]
    · rw [if_neg e] at hB
      obtain ⟨l, hm⟩ := (h1.2 a b).1 hB
      obtain ⟨f, t, a1, a2, a3, a4, e2⟩ := (nfS_ok h).ok.arc _ hm
      simp only [Prod.mk.injEq] at e2
      obtain ⟨e3, e4, e5⟩ := e2
      obtain rfl : a = f := by omega
      obtain rfl : b = t := by omega
      refine ⟨a, b, a2, a3, a4, ?_, ?_⟩
      · rw [hget b a3]
      · rw [if_neg e, hget b a3, ← e4]; exact hm
  · rintro ⟨f, t, a1, a2, a3, rfl, hx⟩
    refine ⟨f, t, by omega, by omega, ?_, by rw [hget t a2]⟩
    unfold nfB
    by_cases e : f = 0
    · rw [if_pos e] at hx ⊢
      exact (h2.1 t).2 hx
    · rw [if_neg e] at hx ⊢
      exact (h1.2 f t).2 ⟨_, hx⟩
theorem ends_are {ps : List Pc} (h : okP ps = true) (hn : nfN ps < 24) (i : Nat) : (if i = 0 then (nfT ps).2.nl else (nfT ps).2.la i) = nfF ps i := by
  obtain ⟨_, _, h3, h4⟩ := nfT_tie h hn
  unfold nfF
  by_cases e : i = 0
  · rw [if_pos e, if_pos e, h4]
  · rw [if_neg e, if_neg e]
    have h5 := h3 i
    by_cases m : (i : Int) ∈ (nfS ps).2.la
    · rw [h5.2 m, decide_eq_true m]
    · rw [decide_eq_false m, Bool.eq_false_iff]
      exact fun e2 => m (h5.1 e2)
end Go.Proofs.YtbepmeipjdpipaaGreat

namespace Go.Proofs.YtbepmeipjdpipaaGreat
open Go.RowKit

def atOk (x : At) : Bool := (readP x.2.1).isSome && qname x.1 && qname x.2.2 && nfG ((readP x.2.1).getD [])
def atsOk (t : List At) (k : Nat) : Bool := (List.range k).all fun i => atOk (aat t i)
theorem atsOk_succ (t : List At) (k : Nat) : atsOk t (k + 1) = (atsOk t k && atOk (aat t k)) := by simp [atsOk, List.range_succ]
theorem atsOk_no {t : List At} {i k : Nat} (h : i < k) (h1 : atOk (aat t i) = false) : atsOk t k = false := by
  refine Bool.eq_false_iff.2 fun e => ?_
  have := List.all_eq_true.1 e i (List.mem_range.2 h)
  rw [h1] at this
  cases this
def flOk (ns : List Tx) (f : Fl) : Bool := inL f.1 ns && (decide (1 ≤ f.2.1) && decide (f.2.1 ≤ 2)) && ((f.2.2.1.toList == (⟨#[]⟩ : ByteArray).toList) || (inL f.2.2.1 ns && decide (f.2.2.2 = 0))) && (decide (0 ≤ f.2.2.2) && decide (f.2.2.2 ≤ 99))
def flsOk (ns : List Tx) (l : List Fl) (k : Nat) : Bool := (List.range k).all fun i => flOk ns (fat l i)
theorem flsOk_succ (ns : List Tx) (l : List Fl) (k : Nat) : flsOk ns l (k + 1) = (flsOk ns l k && flOk ns (fat l k)) := by simp [flsOk, List.range_succ]
theorem flsOk_no {ns : List Tx} {l : List Fl} {i k : Nat} (h : i < k) (h1 : flOk ns (fat l i) = false) : flsOk ns l k = false := by
  refine Bool.eq_false_iff.2 fun e => ?_
  have := List.all_eq_true.1 e i (List.mem_range.2 h)
  rw [h1] at this
  cases this
def ouOk (ns o : List Tx) (i : Nat) : Bool := inL (tat o i) ns && !inL (tat o i) (o.take i)
def ousOk (ns o : List Tx) (k : Nat) : Bool := (List.range k).all fun i => ouOk ns o i
theorem ousOk_succ (ns o : List Tx) (k : Nat) : ousOk ns o (k + 1) = (ousOk ns o k && ouOk ns o k) := by simp [ousOk, List.range_succ]
theorem ousOk_no {ns o : List Tx} {i k : Nat} (h : i < k) (h1 : ouOk ns o i = false) : ousOk ns o k = false := by
  refine Bool.eq_false_iff.2 fun e => ?_
  have := List.all_eq_true.1 e i (List.mem_range.2 h)
  rw [h1] at this
  cases this
theorem apart_few : ∀ {o ns : List Tx}, o.Nodup → (∀ x ∈ o, x ∈ ns) → o.length ≤ ns.length
  | [], _, _, _ => Nat.zero_le _
  | x :: o, ns, hd, hs => by
    obtain ⟨s, t, rfl⟩ := List.append_of_mem (hs x (by simp))
    have h1 := List.nodup_cons.1 hd
    have := apart_few (o := o) (ns := s ++ t) h1.2 (fun y hy => by
      have h2 := hs y (by simp [hy])
      have h3 : y ≠ x := fun e => h1.1 (e ▸ hy)
      simp only [List.mem_append, List.mem_cons] at h2 ⊢
      rcases h2 with h2 | h2 | h2
      · exact .inl h2
      · exact absurd h2 h3
      · exact .inr h2)
    simp only [List.length_append, List.length_cons] at this ⊢
    omega
theorem nodup_take {o : List Tx} (h : ∀ i, i < o.length → tat o i ∉ o.take i) : ∀ k, k ≤ o.length → (o.take k).Nodup
  | 0, _ => by simp
  | k + 1, hk => by
    rw [List.take_add_one, List.getElem?_eq_getElem (by omega)]
    refine List.nodup_append.2 ⟨nodup_take h k (by omega), by simp, fun a ha b hb e => ?_⟩
    simp at hb
    subst e
    have := h k (by omega)
    rw [tat_get (by omega)] at this
    exact this (hb ▸ ha)
theorem ousOk_few {ns o : List Tx} (h : ousOk ns o o.length = true) : o.length ≤ ns.length := by
  have hh : ∀ i, i < o.length → tat o i ∈ ns ∧ tat o i ∉ o.take i := fun i hi => by
    have := List.all_eq_true.1 h i (List.mem_range.2 hi)
    unfold ouOk at this
    simp only [Bool.and_eq_true, Bool.not_eq_true'] at this
    exact ⟨inL_iff.1 this.1, fun e => by rw [inL_iff.2 e] at this; exact absurd this.2 (by simp)⟩
  have hn := nodup_take (fun i hi => (hh i hi).2) o.length (Nat.le_refl _)
  rw [List.take_length] at hn
  refine apart_few hn fun x hx => ?_
  obtain ⟨i, hi, e⟩ := List.getElem_of_mem hx
  have := (hh i hi).1
  rw [tat_get hi, e] at this
  exact this
def qOk (o : List Tx) (t : List At) (f : List Fl) : Bool := (decide (1 ≤ t.length) && decide (t.length ≤ 4)) && decide (f.length ≤ 3) && (decide (1 ≤ o.length) && decide (o.length ≤ 4)) && atsOk t t.length && ousOk (nmL t t.length) o o.length && flsOk (nmL t t.length) f f.length && decide ((nmL t t.length).length ≤ 4)
theorem qOk_bad {o : List Tx} {t : List At} {f : List Fl} (h : ¬ (1 ≤ t.length ∧ t.length ≤ 4 ∧ f.length ≤ 3 ∧ 1 ≤ o.length ∧ o.length ≤ 4)) : qOk o t f = false := by
  refine Bool.eq_false_iff.2 fun e => h ?_
  unfold qOk at e
  simp only [Bool.and_eq_true, decide_eq_true_eq] at e
  omega
theorem qOk_at {o : List Tx} {t : List At} {f : List Fl} (h : atsOk t t.length = false) : qOk o t f = false := by unfold qOk; rw [h]; simp
theorem qOk_ou {o : List Tx} {t : List At} {f : List Fl} (h : ousOk (nmL t t.length) o o.length = false) : qOk o t f = false := by unfold qOk; rw [h]; simp
theorem qOk_fl {o : List Tx} {t : List At} {f : List Fl} (h : flsOk (nmL t t.length) f f.length = false) : qOk o t f = false := by unfold qOk; rw [h]; simp
theorem qOk_end {o : List Tx} {t : List At} {f : List Fl} (h : 1 ≤ t.length ∧ t.length ≤ 4 ∧ f.length ≤ 3 ∧ 1 ≤ o.length ∧ o.length ≤ 4) (h1 : atsOk t t.length = true) (h2 : ousOk (nmL t t.length) o o.length = true) (h3 : flsOk (nmL t t.length) f f.length = true) : qOk o t f = decide ((nmL t t.length).length ≤ 4) := by
  unfold qOk
  rw [h1, h2, h3, decide_eq_true h.1, decide_eq_true h.2.1, decide_eq_true h.2.2.1, decide_eq_true h.2.2.2.1, decide_eq_true h.2.2.2.2]
  rfl
theorem qOk_impl {o : List Tx} {t : List At} {f : List Fl} (h : 1 ≤ t.length ∧ t.length ≤ 4 ∧ f.length ≤ 3) (h1 : atsOk t t.length = true) (h3 : flsOk (nmL t t.length) f f.length = true) : qOk o t f = (decide ((nmL t t.length).length ≤ 4) && (ousOk (nmL t t.length) o o.length && decide (0 < o.length))) := by
  unfold qOk
  rw [h1, h3, decide_eq_true h.1, decide_eq_true h.2.1, decide_eq_true h.2.2]
  by_cases h4 : (nmL t t.length).length ≤ 4
  · rcases Bool.eq_false_or_eq_true (ousOk (nmL t t.length) o o.length) with e | e
    · have := ousOk_few e
      have h5 : o.length ≤ 4 := by omega
      rw [e, decide_eq_true h4, decide_eq_true h5]
      simp
      omega
    · rw [e]; simp
  · rw [decide_eq_false h4]; simp
def ixN (x : Tx) : List Tx → Nat
  | [] => 0
  | y :: l => if y = x then 0 else ixN x l + 1
def ixL (x : Tx) (l : List Tx) : Int := if ixN x l < l.length then (ixN x l : Int) else -1
theorem ixN_of {x : Tx} : ∀ {l : List Tx} {k : Nat}, k ≤ l.length → (∀ j, j < k → tat l j ≠ x) → (k < l.length → tat l k = x) → ixN x l = k
  | [], k, hk, _, _ => by simp at hk; subst hk; rfl
  | y :: l, 0, _, _, h => by
    have : y = x := by simpa [tat] using h (by simp)
    simp [ixN, this]
  | y :: l, k + 1, hk, h0, h => by
    have h1 : y ≠ x := by simpa [tat] using h0 0 (by omega)
    unfold ixN
    rw [if_neg h1, ixN_of (k := k) (by simpa using hk) (fun j hj => by simpa [tat] using h0 (j + 1) (by omega)) (fun hh => by simpa [tat] using h (by simpa using hh))]
theorem ixL_at {x : Tx} {l : List Tx} {k : Nat} (hk : k < l.length) (h0 : ∀ j, j < k → tat l j ≠ x) (h : tat l k = x) : ixL x l = k := by
  unfold ixL
  rw [ixN_of (by omega) h0 (fun _ => h), if_pos hk]
theorem ixL_no {x : Tx} {l : List Tx} (h0 : ∀ j, j < l.length → tat l j ≠ x) : ixL x l = -1 := by
  unfold ixL
  rw [ixN_of (k := l.length) (by omega) h0 (fun h => absurd h (by omega)), if_neg (by omega)]
theorem ixL_iff {x : Tx} {l : List Tx} : decide (0 ≤ ixL x l) = inL x l := by
  by_cases h : ∃ i, i < l.length ∧ tat l i = x
  · have : inL x l = true := inL_iff.2 ((mem_upto l x).2 h)
    rw [this]
    unfold ixL
    have h2 : ixN x l < l.length := by
      obtain ⟨i, hi, e⟩ := h
      have : ∀ (l : List Tx) (i : Nat), i < l.length → tat l i = x → ixN x l < l.length := by
        intro l
        induction l with
        | nil => intro i hi; simp at hi
        | cons y l ih =>
          intro i hi e
          unfold ixN
          by_cases hy : y = x
          · rw [if_pos hy]; simp
          · rw [if_neg hy]
            match i, hi, e with
            | 0, _, e => exact absurd (by simpa [tat] using e) hy
            | i + 1, hi, e =>
              have := ih i (by simpa using hi) (by simpa [tat] using e)
              simp
              exact this
      exact this l i hi e
    rw [if_pos h2]
    exact decide_eq_true (by omega)
  · have h2 : ∀ j, j < l.length → tat l j ≠ x := fun j hj e => h ⟨j, hj, e⟩
    have : inL x l = false := Bool.eq_false_iff.2 fun e => h ((mem_upto l x).1 (inL_iff.1 e))
    rw [ixL_no h2, this]
    rfl
theorem FlIn.take {lo hi n k : Nat} {w : World} {a : Option Addr} {l : List Tx} (h : FlIn 1 lo hi w a n (tC l)) (hk : k ≤ n) : FlIn 1 lo hi w a k (tC (l.take k)) := by
  rcases h with h | ⟨b, o, h1, h2, h3, h4⟩
  · exact .inl (by omega)
  · refine .inr ⟨b, o, h1, h2, h3, fun j hj => ?_⟩
    rw [h4 j (by omega)]
    unfold tC
    have : tat (l.take k) j = tat l j := by
      unfold tat
      simp only [List.getD_eq_getElem?_getD]
      rw [List.getElem?_take_of_lt (by omega)]
    rw [this]
end Go.Proofs.YtbepmeipjdpipaaGreat

namespace Go.Proofs.YtbepmeipjdpipaaGreat
open Go.RowKit

set_option maxHeartbeats 2000000 in
theorem index_any (lo hi : Nat) (a : Option Addr) (n cap : Nat) (l : List Tx) (x : Tx) (r : Int) (w : World) (ha : FlIn 1 lo hi w a n (tC l)) (hn : l.length = n) (hm : n ≤ 9223372036854775807) (hr : r = ixL x l) :
    Calls Tryz.prog 70 #[.slice a n cap, .string x] w fun e w' => e = .returned (.int .i64 r) ∧ w = w' := by
  have HN : Hid (l.length = n) := hn
  have HA : Hid (FlIn 1 lo hi w a n (tC l)) := ha
  have HR : Hid (r = ixL x l) := hr
  clear ha hn hr
  go_enter Tryz.func70, Tryz.ntmps70
  go_wp2
  go_loopw [8, 5] (fun i v wr => ∃ k : Nat, i = .int .i64 (k : Int) ∧ wr = w ∧ k ≤ n ∧ Hid (∀ j, j < k → tat l j ≠ x)) (fun i _ _ => n - (intOf i).toNat)
  case atStart => exact ⟨0, rfl, rfl, by omega, fun j hj => absurd hj (by omega)⟩
  case round =>
    obtain ⟨k, rfl, rfl, hk, HP⟩ := hrel
    by_cases hlt : k < n
    · have hlt1 : (k : Int) < (n : Int) := by omega
      have hlt0 : (0 : Int) ≤ (k : Int) := by omega
      obtain ⟨b, o, rfl, _, _, hc⟩ := HA.out.at hlt
      obtain ⟨y, HY⟩ : ∃ y, Hid (y = tat l k) := ⟨_, rfl⟩
      have p0 := hc 0 (by omega)
      rw [tC0, ← HY.out, Nat.mul_one, Nat.add_zero] at p0
      clear hc
      by_cases hxy : y = x
      · have hne : (x.toList == y.toList) = true := by rw [toList_eq]; exact decide_eq_true hxy.symm
        have hf : r = (k : Int) := by rw [HR.out]; exact ixL_at (by rw [HN.out]; exact hlt) HP.out (by rw [← HY.out, hxy])
        have HXY : Hid (y = x) := hxy
        clear hxy
        subst hf
        go_wp2
        go_ret
        exact ⟨rfl, rfl⟩
      · have hne : (x.toList == y.toList) = false := by rw [toList_eq]; exact decide_eq_false fun e => hxy e.symm
        have HXY : Hid (¬ y = x) := hxy
        clear hxy
        go_wp2
        go_roundw
        case rel => exact ⟨k + 1, by go_num, trivial, by omega, fun j hj => by
          by_cases e : j = k
          · subst e; rw [← HY.out]; exact HXY.out
          · exact HP.out j (by omega)⟩
        case measure => simp [intOf]; omega
    · obtain rfl : k = n := by omega
      have hf : r = -1 := by rw [HR.out]; exact ixL_no (fun j hj => HP.out j (by rw [← HN.out]; exact hj))
      subst hf
      go_wp2
      go_ret
      exact ⟨rfl, rfl⟩

theorem contains_any (lo hi : Nat) (a : Option Addr) (n cap : Nat) (l : List Tx) (x : Tx) (r : Bool) (w : World) (ha : FlIn 1 lo hi w a n (tC l)) (hn : l.length = n) (hm : n ≤ 9223372036854775807) (hr : r = inL x l) :
    Calls Tryz.prog 50 #[.slice a n cap, .string x] w fun e w' => e = .returned (.bool r) ∧ w = w' := by
  have HI := index_any lo hi a n cap l x (ixL x l) w ha hn hm rfl
  obtain ⟨i, hi0⟩ : ∃ i, i = ixL x l := ⟨_, rfl⟩
  rw [← hi0] at HI
  have hri : r = decide (0 ≤ i) := by rw [hr, hi0, ixL_iff]
  clear ha hn hr hi0
  subst hri
  go_enter Tryz.func50, Tryz.ntmps50
  go_wp2_with fail
  refine HI.mono ?_
  rintro e1 w1 ⟨rfl, rfl⟩
  go_wp2
  go_ret
  exact ⟨rfl, rfl⟩
end Go.Proofs.YtbepmeipjdpipaaGreat

namespace Go.Proofs.YtbepmeipjdpipaaGreat
open Go.RowKit

theorem decI (x lo hi : Int) (h1 : lo ≤ x) (h2 : x ≤ hi) : (decide (lo ≤ x) && decide (x ≤ hi)) = true := by rw [decide_eq_true h1, decide_eq_true h2]; rfl
theorem decI_no {x lo hi : Int} (h : (decide (lo ≤ x) && decide (x ≤ hi)) = false) : ¬ (lo ≤ x ∧ x ≤ hi) := fun e => by rw [decI x lo hi e.1 e.2] at h; cases h
theorem decI_yes {x lo hi : Int} (h : (decide (lo ≤ x) && decide (x ≤ hi)) = true) : lo ≤ x ∧ x ≤ hi := by
  simp only [Bool.and_eq_true, decide_eq_true_eq] at h; exact h
set_option maxHeartbeats 16000000 in
set_option maxRecDepth 100000 in
theorem specQueryOk_of (hat : ∀ (x0 x1 x2 : Tx) (w : World), x0.size ≤ 1048576 ∧ x1.size ≤ 1048576 ∧ x2.size ≤ 1048576 → Calls Tryz.prog 21 #[.agg #[.string x0, .string x1, .string x2]] w fun e w' => e = .returned (.bool (atOk (x0, x1, x2))) ∧ Hid (Below w.heap.size w w'))
    (lo hi : Nat) (e : Bool) (a b c : Option Addr) (n1 c1 n2 c2 n3 c3 : Nat) (o : List Tx) (t : List At) (f : List Fl) (w : World) (ha : QIn lo hi w a b c n1 n2 n3 (tC o) (aC t) (fC f)) (hh : hi ≤ w.heap.size) (hl : o.length = n1 ∧ t.length = n2 ∧ f.length = n3) (hz : QLe 1048576 n1 n2 n3 o t f) (hcap : n1 ≤ c1 ∧ c1 ≤ 9223372036854775807) :
    Calls Tryz.prog 6 #[qv e a n1 c1 b n2 c2 c n3 c3] w fun e' w' => e' = .returned (.bool (qOk o t f)) ∧ Hid (Below w.heap.size w w') := by
  obtain ⟨B, HB⟩ : ∃ B, Hid (B = w.heap.size) := ⟨_, rfl⟩
  obtain ⟨W, HW⟩ : ∃ W, Hid (W = w.alloc (.cells #[.bool e, .slice a n1 c1, .slice b n2 c2, .slice c n3 c3] 32)) := ⟨_, rfl⟩
  have HBW : Hid (Below w.heap.size w W) := by rw [HW.out]; exact below1 w _
  have HSW : Hid (W.heap.size = B + 1) := by rw [HW.out, HB.out]; show _ = _; simp
  have HQ : Hid (Blk W B 4 (q4 (.bool e) (.slice a n1 c1) (.slice b n2 c2) (.slice c n3 c3))) := by rw [HW.out]; exact blk_four w B HB.out _ _ _ _ _
  have HA : Hid (QIn lo hi W a b c n1 n2 n3 (tC o) (aC t) (fC f)) := ha.below HBW.out hh
  have HH : Hid (hi ≤ B) := by rw [HB.out]; exact hh
  have HL : Hid (o.length = n1 ∧ t.length = n2 ∧ f.length = n3) := hl
  have HZ : Hid (QLe 1048576 n1 n2 n3 o t f) := hz
  have HAT : Hid (∀ (x0 x1 x2 : Tx) (w : World), x0.size ≤ 1048576 ∧ x1.size ≤ 1048576 ∧ x2.size ≤ 1048576 → Calls Tryz.prog 21 #[.agg #[.string x0, .string x1, .string x2]] w fun e w' => e = .returned (.bool (atOk (x0, x1, x2))) ∧ Hid (Below w.heap.size w w')) := hat
  have HIN : Hid (∀ (x lo hi : Int) (r : Bool) (w0 : World), r = (decide (lo ≤ x) && decide (x ≤ hi)) → Calls Tryz.prog 20 #[.int .i64 x, .int .i64 lo, .int .i64 hi] w0 fun e w' => e = .returned (.bool r) ∧ w0 = w') := fun x lo hi r w0 h => by rw [h]; exact l01In_any x lo hi w0
  obtain ⟨r, HR⟩ : ∃ b : Bool, Hid (b = qOk o t f) := ⟨_, rfl⟩
  have HBAD : Hid (¬ (1 ≤ n2 ∧ n2 ≤ 4 ∧ n3 ≤ 3 ∧ 1 ≤ n1 ∧ n1 ≤ 4) → r = false) := fun h => by rw [HR.out]; exact qOk_bad (by rw [HL.out.1, HL.out.2.1, HL.out.2.2]; exact h)
  rw [← HR.out]
  clear ha hh hl hz hat
  obtain ⟨hcp, hcm⟩ := hcap
  go_enter Tryz.func6, Tryz.ntmps6
  obtain ⟨FF, HFF⟩ : ∃ F : Func, Hid (F = Tryz.f6) := ⟨_, rfl⟩
  rw [← HFF.out]
  go_upto_region 1 with fail
  rw [← HB.out]
  first | rw [← HW.out] | (rw [show _ = W from HW.out.symm])
  clear HW
  obtain ⟨q0, q1, q2, q3⟩ := q_cells HQ.out
  obtain ⟨u1, HU1⟩ : ∃ b : Bool, Hid (b = (decide ((1 : Int) ≤ (n2 : Int)) && decide ((n2 : Int) ≤ 4))) := ⟨_, rfl⟩
  go_wp2_with fail
  refine (HIN.out _ _ _ u1 _ HU1.out).mono ?_
  rintro e1 w1 ⟨rfl, rfl⟩
  rcases Bool.eq_false_or_eq_true u1 with h | h
  rotate_left
  · subst h
    have hr : r = false := HBAD.out (by have := decI_no HU1.out.symm; omega)
    subst hr
    go_wp2
    obtain rfl : FF = Tryz.f6 := HFF.out
    go_ret
    exact ⟨rfl, HBW.out⟩
  subst h
  have h24 : 1 ≤ n2 ∧ n2 ≤ 4 := by have := decI_yes HU1.out.symm; omega
  by_cases h33 : n3 ≤ 3
  rotate_left
  · have hr : r = false := HBAD.out (by omega)
    subst hr
    have hg : (n3 : Int) > 3 := by omega
    go_wp2
    obtain rfl : FF = Tryz.f6 := HFF.out
    go_ret
    exact ⟨rfl, HBW.out⟩
  have hg : ¬ (n3 : Int) > 3 := by omega
  obtain ⟨u2, HU2⟩ : ∃ b : Bool, Hid (b = (decide ((1 : Int) ≤ (n1 : Int)) && decide ((n1 : Int) ≤ 4))) := ⟨_, rfl⟩
  go_wp2_with fail
  refine (HIN.out _ _ _ u2 _ HU2.out).mono ?_
  rintro e1 w1 ⟨rfl, rfl⟩
  rcases Bool.eq_false_or_eq_true u2 with h | h
  rotate_left
  · subst h
    have hr : r = false := HBAD.out (by have := decI_no HU2.out.symm; omega)
    subst hr
    go_wp2
    obtain rfl : FF = Tryz.f6 := HFF.out
    go_ret
    exact ⟨rfl, HBW.out⟩
  subst h
  have h14 : 1 ≤ n1 ∧ n1 ≤ 4 := by have := decI_yes HU2.out.symm; omega
  have HOKN : Hid (1 ≤ n2 ∧ n2 ≤ 4 ∧ n3 ≤ 3 ∧ 1 ≤ n1 ∧ n1 ≤ 4) := ⟨h24.1, h24.2, h33, h14.1, h14.2⟩
  clear HU1 HU2 HBAD q0 q1 q2 q3 hg
  go_wp2
  go_loopw [3] (fun i wr => ∃ k : Nat, i = .int .i64 (k : Int) ∧ k ≤ n2 ∧ Hid (atsOk t k = true) ∧ Hid (Below (B + 1) W wr)) (fun i _ => n2 - (intOf i).toNat)
  case atStart => exact ⟨0, rfl, by omega, rfl, Below.refl _ _⟩
  case round =>
    obtain ⟨k, rfl, hk, HP, HBR⟩ := hrel
    obtain ⟨q0, q1, q2, q3⟩ := q_cells (HQ.out.of_block (HBR.out.block _ (by omega)))
    by_cases hlt : k < n2
    · have hlt1 : (k : Int) < (n2 : Int) := by omega
      have hlt0 : (0 : Int) ≤ (k : Int) := by omega
      obtain ⟨g, og, rfl, _, hgh, hc⟩ := (HA.out.2.1.below HBR.out (by have := HH.out; omega)).at hlt
      obtain ⟨x, HX⟩ : ∃ x, Hid (x = aat t k) := ⟨_, rfl⟩
      have p0 := hc 0 (by omega)
      have p1 := hc 1 (by omega)
      have p2 := hc 2 (by omega)
      have HSK : Hid (x.1.size ≤ 1048576 ∧ x.2.1.size ≤ 1048576 ∧ x.2.2.size ≤ 1048576) := by rw [HX.out]; exact HZ.out.2.2.1 k hlt
      rw [aC0, ← HX.out] at p0
      rw [aC1, ← HX.out] at p1
      rw [aC2, ← HX.out] at p2
      simp only [Nat.add_zero] at p0
      rw [← Nat.add_assoc] at p1 p2
      obtain ⟨x0, x1, x2⟩ := x
      dsimp only at p0 p1 p2
      clear hc hgh
      obtain ⟨u, HU⟩ : ∃ b : Bool, Hid (b = atOk (x0, x1, x2)) := ⟨_, rfl⟩
      have HCA : Hid (∀ w0, Calls Tryz.prog 21 #[.agg #[.string x0, .string x1, .string x2]] w0 fun e w' => e = .returned (.bool u) ∧ Hid (Below w0.heap.size w0 w')) := fun w0 => by rw [HU.out]; exact HAT.out x0 x1 x2 w0 HSK.out
      go_wp2_with fail
      refine (HCA.out _).mono ?_
      rintro e1 w1 ⟨rfl, HB1⟩
      have HB2 : Hid (Below (B + 1) W w1) := HBR.out.trans (HB1.out.mono (by have := HBR.out.size; have := HSW.out; omega))
      clear HB1 q0 q1 q2 q3 p0 p1 p2
      rcases Bool.eq_false_or_eq_true u with h | h
      · subst h
        go_wp2
        go_roundw
        case rel => exact ⟨k + 1, by go_num, by omega, by show _ = _; rw [atsOk_succ, HP.out, ← HX.out, ← HU.out]; rfl, HB2⟩
        case measure => simp [intOf]; omega
      · subst h
        have hr : r = false := by rw [HR.out]; exact qOk_at (by rw [HL.out.2.1]; exact atsOk_no (i := k) hlt (by rw [← HX.out, ← HU.out]))
        subst hr
        go_wp2
        obtain rfl : FF = Tryz.f6 := HFF.out
        go_ret
        exact ⟨rfl, HBW.out.trans (HB2.out.mono (by have := HB.out; omega))⟩
    · obtain rfl : k = n2 := by omega
      have HATS : Hid (atsOk t t.length = true) := by rw [HL.out.2.1]; exact HP.out
      have HSZR : Hid (B + 1 ≤ wr.heap.size) := by rw [← HSW.out]; exact HBR.out.size
      go_upto_region 9 with (go_at_call 22; refine (specNames_any lo hi e a b c n1 c1 k c2 n3 c3 o t f _ (HA.out.below HBR.out (by have := HH.out; omega)) (by have := HH.out; have := HSZR.out; omega) (by omega)).mono ?_; rintro e1 w1 ⟨ao, nn, cc, rfl, HNN, HNM, HB1⟩)
      obtain ⟨ns, HNS⟩ : ∃ ns, Hid (ns = nmL t t.length) := ⟨_, rfl⟩
      have HNSk : Hid (nmL t k = ns) := by show _ = _; rw [HNS.out, HL.out.2.1]
      rw [HNSk.out] at HNN HNM
      have HB2 : Hid (Below (B + 1) W w1) := HBR.out.trans (HB1.out.mono HSZR.out)
      have HS1 : Hid (B + 1 ≤ w1.heap.size) := Nat.le_trans HSZR.out HB1.out.size
      have HQ1 : Hid (Blk w1 B 4 (q4 (.bool e) (.slice a n1 c1) (.slice b k c2) (.slice c n3 c3))) := HQ.out.of_block (HB2.out.block _ (by omega))
      have HA1 : Hid (QIn lo hi w1 a b c n1 k n3 (tC o) (aC t) (fC f)) := HA.out.below HB2.out (by have := HH.out; omega)
      have HNL : Hid (nn ≤ 8) := by have h1 := nmL_len t k; rw [HNSk.out, HNN.out] at h1; show nn ≤ 8; omega
      have HIL : Hid (∀ (x : Tx) (u : Bool) (w0 : World), Below w1.heap.size w1 w0 → u = inL x ns → Calls Tryz.prog 23 #[.slice ao nn cc, .string x] w0 fun e w' => e = .returned (.bool u) ∧ w0 = w') := fun x u w0 h1 h2 => l08In_any wr.heap.size w1.heap.size ao nn cc ns x u w0 (HNM.out.toIn.below h1 (Nat.le_refl _)) HNN.out (by have := HNL.out; omega) h2
      have HIO : Hid (∀ (k : Nat) (x : Tx) (u : Bool) (w0 : World), k ≤ n1 → Below w1.heap.size w1 w0 → u = inL x (o.take k) → Calls Tryz.prog 23 #[.slice a k c1, .string x] w0 fun e w' => e = .returned (.bool u) ∧ w0 = w') := fun k x u w0 h0 h1 h2 => l08In_any lo hi a k c1 (o.take k) x u w0 ((HA1.out.1.below h1 (by have := HH.out; have := HS1.out; omega)).take h0) (by rw [List.length_take, HL.out.1]; omega) (by omega) h2
      clear HB1 q0 q1 q2 q3 HNM HA HQ HP HNSk
      go_wp2
      go_loopw [5] (fun i wr => ∃ j : Nat, i = .int .i64 (j : Int) ∧ j ≤ n1 ∧ Hid (ousOk ns o j = true) ∧ Hid (Below w1.heap.size w1 wr)) (fun i _ => n1 - (intOf i).toNat)
      case atStart => exact ⟨0, rfl, by omega, rfl, Below.refl _ _⟩
      case round =>
        obtain ⟨j, rfl, hj, HPO, HBO⟩ := hrel
        obtain ⟨q0, q1, q2, q3⟩ := q_cells (HQ1.out.of_block (HBO.out.block _ HQ1.out.lt))
        by_cases hlj : j < n1
        · have hlj1 : (j : Int) < (n1 : Int) := by omega
          have hlj0 : (0 : Int) ≤ (j : Int) := by omega
          obtain ⟨g, og, rfl, _, hgh, hc⟩ := (HA1.out.1.below HBO.out (by have := HH.out; have := HS1.out; omega)).at hlj
          obtain ⟨y, HY⟩ : ∃ y, Hid (y = tat o j) := ⟨_, rfl⟩
          have p0 := hc 0 (by omega)
          rw [tC0, ← HY.out, Nat.mul_one, Nat.add_zero] at p0
          clear hc hgh
          obtain ⟨u, HU⟩ : ∃ b : Bool, Hid (b = inL y ns) := ⟨_, rfl⟩
          obtain ⟨v, HV⟩ : ∃ b : Bool, Hid (b = inL y (o.take j)) := ⟨_, rfl⟩
          have HSU : Hid (ouOk ns o j = (u && !v)) := by rw [HU.out, HV.out, HY.out]; rfl
          have HNO : Hid (ouOk ns o j = false → r = false) := fun h => by rw [HR.out]; exact qOk_ou (by rw [← HNS.out, HL.out.1]; exact ousOk_no (i := j) hlj h)
          have HBD : Hid (Below w1.heap.size w1 wr.drew) := HBO.out.drew
          have HCU : Hid (Calls Tryz.prog 23 #[.slice ao nn cc, .string y] wr.drew fun e w' => e = .returned (.bool u) ∧ wr.drew = w') := HIL.out y u _ HBD.out HU.out
          have HCV : Hid (Calls Tryz.prog 23 #[.slice (some ⟨g, og, none⟩) j c1, .string y] wr.drew fun e w' => e = .returned (.bool v) ∧ wr.drew = w') := HIO.out j y v _ hj HBD.out HV.out
          have HSD : Hid (wr.drew.cell? ⟨B, 1, none⟩ = some (.slice (some ⟨g, og, none⟩) n1 c1) ∧ wr.drew.cell? ⟨g, og + j, none⟩ = some (.string y)) := ⟨q1, p0⟩
          go_upto_region 12 with fail
          have hjc : j ≤ c1 := by omega
          clear q0 q1 q2 q3 p0
          rcases Bool.eq_false_or_eq_true u with h | h
          · subst h
            refine wp_region_held_drew (S := fun wz => wz.cell? ⟨B, 1, none⟩ = some (.slice (some ⟨g, og, none⟩) n1 c1) ∧ wz.cell? ⟨g, og + j, none⟩ = some (.string y)) (by kernel_rfl) HSD.out (fun hHeld => ?_)
            refine wpAnyH_take (i := 0) (oi := { dst := some 49, op := Op.move (.tmp 4), type := 22, pos := "l08_query.go:56", after := #[], guard := none }) (v := ?_) rfl (by kernel_rfl) (by kernel_rfl) (by kernel_rfl) (fun _ _ _ h => h) (Or.inl ⟨by kernel_rfl, ?_⟩) (by assumption) ?_
            rotate_left
            · intro w hSw; (try dsimp only at hSw); go_simp; try with_reducible rfl
            simp only [Act.put, List.setIfInBounds_toArray, List.set_cons_zero, List.set_cons_succ]
            refine wpAnyH_take (i := 1) (oi := { dst := some 50, op := Op.fieldAddr 32 (.tmp 1) 1, type := 0, pos := "l08_query.go:56", after := #[], guard := none }) (v := ?_) rfl (by kernel_rfl) (by kernel_rfl) (by kernel_rfl) (fun _ _ _ h => h) (Or.inl ⟨by kernel_rfl, ?_⟩) (by assumption) ?_
            rotate_left
            · intro w hSw; (try dsimp only at hSw); go_simp; try with_reducible rfl
            simp only [Act.put, List.setIfInBounds_toArray, List.set_cons_zero, List.set_cons_succ]
            refine wpAnyH_take (i := 2) (oi := { dst := some 51, op := Op.load 22 (.tmp 50), type := 22, pos := "l08_query.go:56", after := #[{ on := 1, ground := .data }], guard := none }) (v := ?_) rfl (by kernel_rfl) (by kernel_rfl) (by kernel_rfl) (fun _ _ _ h => h) (Or.inl ⟨by kernel_rfl, ?_⟩) (by assumption) ?_
            rotate_left
            · intro w hSw; (try dsimp only at hSw); go_simp; try with_reducible rfl
            simp only [Act.put, List.setIfInBounds_toArray, List.set_cons_zero, List.set_cons_succ]
            refine wpAnyH_take (i := 3) (oi := { dst := some 52, op := Op.move (.tmp 5), type := 3, pos := "l08_query.go:56", after := #[], guard := none }) (v := ?_) rfl (by kernel_rfl) (by kernel_rfl) (by kernel_rfl) (fun _ _ _ h => h) (Or.inl ⟨by kernel_rfl, ?_⟩) (by assumption) ?_
            rotate_left
            · intro w hSw; (try dsimp only at hSw); go_simp; try with_reducible rfl
            simp only [Act.put, List.setIfInBounds_toArray, List.set_cons_zero, List.set_cons_succ]
            refine wpAnyH_take (i := 4) (oi := { dst := some 53, op := Op.indexAddr 22 (.tmp 51) (.tmp 52), type := 0, pos := "l08_query.go:56", after := #[{ on := 2, ground := .data }, { on := 3, ground := .data }], guard := none }) (v := ?_) rfl (by kernel_rfl) (by kernel_rfl) (by kernel_rfl) (fun _ _ _ h => h) (Or.inl ⟨by kernel_rfl, ?_⟩) (by assumption) ?_
            rotate_left
            · intro w hSw; (try dsimp only at hSw); go_simp; try with_reducible rfl
            simp only [Act.put, List.setIfInBounds_toArray, List.set_cons_zero, List.set_cons_succ]
            refine wpAnyH_take (i := 5) (oi := { dst := some 54, op := Op.load 9 (.tmp 53), type := 9, pos := "l08_query.go:56", after := #[{ on := 4, ground := .data }], guard := none }) (v := ?_) rfl (by kernel_rfl) (by kernel_rfl) (by kernel_rfl) (fun _ _ _ h => h) (Or.inl ⟨by kernel_rfl, ?_⟩) (by assumption) ?_
            rotate_left
            · intro w hSw; (try dsimp only at hSw); go_simp; try with_reducible rfl
            simp only [Act.put, List.setIfInBounds_toArray, List.set_cons_zero, List.set_cons_succ]
            refine wpAnyH_ready (rs := [6]) (by kernel_rfl) (by simp) ?_
            refine AllReadyH.cons (o := { dst := some 55, op := Op.call { callee := Callee.value (.func 23), args := #[.tmp 49, .tmp 54], argTypes := #[22, 9] }, type := 4, pos := "l08_query.go:56", after := #[{ on := 0, ground := .data }, { on := 5, ground := .data }], guard := none }) rfl (fun K hK => ?_) ?_
            · go_wp2_with (go_at_call 23; refine HCU.out.mono ?_; rintro e1 w6 ⟨rfl, rfl⟩)
              refine hK.out _ _ hHeld (fun hHeld => ?_)
              clear hK K
              try simp only [Act.put, List.setIfInBounds_toArray, List.set_cons_zero, List.set_cons_succ]
              refine wpAnyH_take (i := 7) (oi := { dst := some 56, op := Op.unOp Go.UnOp.not 4 (.tmp 55), type := 4, pos := "l08_query.go:56", after := #[{ on := 6, ground := .data }], guard := none }) (v := ?_) rfl (by kernel_rfl) (by kernel_rfl) (by kernel_rfl) (fun _ _ _ h => h) (Or.inl ⟨by kernel_rfl, ?_⟩) (by assumption) ?_
              rotate_left
              · intro w hSw; (try dsimp only at hSw); go_simp; try with_reducible rfl
              simp only [Act.put, List.setIfInBounds_toArray, List.set_cons_zero, List.set_cons_succ]
              refine wpAnyH_take (i := 8) (oi := { dst := some 57, op := Op.move (.tmp 56), type := 4, pos := "l08_query.go:56", after := #[{ on := 7, ground := .data }, { on := 6, ground := .chain }], guard := none }) (v := ?_) rfl (by kernel_rfl) (by kernel_rfl) (by kernel_rfl) (fun _ _ _ h => h) (Or.inl ⟨by kernel_rfl, ?_⟩) (by assumption) ?_
              rotate_left
              · intro w hSw; (try dsimp only at hSw); go_simp; try with_reducible rfl
              simp only [Act.put, List.setIfInBounds_toArray, List.set_cons_zero, List.set_cons_succ]
              refine wpAnyH_take (i := 9) (oi := { dst := some 58, op := Op.fieldAddr 32 (.tmp 1) 1, type := 0, pos := "l08_query.go:56", after := #[{ on := 8, ground := .guard }], guard := some (8, false) }) (v := ?_) rfl (by kernel_rfl) (by kernel_rfl) (by kernel_rfl) (fun _ _ _ h => h) (Or.inl ⟨by kernel_rfl, ?_⟩) (by assumption) ?_
              rotate_left
              · intro w hSw; (try dsimp only at hSw); go_simp; try with_reducible rfl
              simp only [Act.put, List.setIfInBounds_toArray, List.set_cons_zero, List.set_cons_succ]
              refine wpAnyH_take (i := 10) (oi := { dst := some 59, op := Op.load 22 (.tmp 58), type := 22, pos := "l08_query.go:56", after := #[{ on := 9, ground := .data }, { on := 8, ground := .guard }], guard := some (8, false) }) (v := ?_) rfl (by kernel_rfl) (by kernel_rfl) (by kernel_rfl) (fun _ _ _ h => h) (Or.inl ⟨by kernel_rfl, ?_⟩) (by assumption) ?_
              rotate_left
              · intro w hSw; (try dsimp only at hSw); go_simp; try with_reducible rfl
              simp only [Act.put, List.setIfInBounds_toArray, List.set_cons_zero, List.set_cons_succ]
              refine wpAnyH_take (i := 11) (oi := { dst := some 60, op := Op.move (.tmp 5), type := 3, pos := "l08_query.go:56", after := #[{ on := 8, ground := .guard }], guard := some (8, false) }) (v := ?_) rfl (by kernel_rfl) (by kernel_rfl) (by kernel_rfl) (fun _ _ _ h => h) (Or.inl ⟨by kernel_rfl, ?_⟩) (by assumption) ?_
              rotate_left
              · intro w hSw; (try dsimp only at hSw); go_simp; try with_reducible rfl
              simp only [Act.put, List.setIfInBounds_toArray, List.set_cons_zero, List.set_cons_succ]
              refine wpAnyH_take (i := 12) (oi := { dst := some 61, op := Op.slice 22 (.tmp 59) none (some (.tmp 60)) none, type := 22, pos := "l08_query.go:56", after := #[{ on := 10, ground := .data }, { on := 11, ground := .data }, { on := 8, ground := .guard }], guard := some (8, false) }) (v := ?_) rfl (by kernel_rfl) (by kernel_rfl) (by kernel_rfl) (fun _ _ _ h => h) (Or.inl ⟨by kernel_rfl, ?_⟩) (by assumption) ?_
              rotate_left
              · intro w hSw; (try dsimp only at hSw); go_simp; try with_reducible rfl
              simp only [Act.put, List.setIfInBounds_toArray, List.set_cons_zero, List.set_cons_succ]
              refine wpAnyH_take (i := 13) (oi := { dst := some 62, op := Op.fieldAddr 32 (.tmp 1) 1, type := 0, pos := "l08_query.go:56", after := #[{ on := 8, ground := .guard }], guard := some (8, false) }) (v := ?_) rfl (by kernel_rfl) (by kernel_rfl) (by kernel_rfl) (fun _ _ _ h => h) (Or.inl ⟨by kernel_rfl, ?_⟩) (by assumption) ?_
              rotate_left
              · intro w hSw; (try dsimp only at hSw); go_simp; try with_reducible rfl
              simp only [Act.put, List.setIfInBounds_toArray, List.set_cons_zero, List.set_cons_succ]
              refine wpAnyH_take (i := 14) (oi := { dst := some 63, op := Op.load 22 (.tmp 62), type := 22, pos := "l08_query.go:56", after := #[{ on := 13, ground := .data }, { on := 8, ground := .guard }], guard := some (8, false) }) (v := ?_) rfl (by kernel_rfl) (by kernel_rfl) (by kernel_rfl) (fun _ _ _ h => h) (Or.inl ⟨by kernel_rfl, ?_⟩) (by assumption) ?_
              rotate_left
              · intro w hSw; (try dsimp only at hSw); go_simp; try with_reducible rfl
              simp only [Act.put, List.setIfInBounds_toArray, List.set_cons_zero, List.set_cons_succ]
              refine wpAnyH_take (i := 15) (oi := { dst := some 64, op := Op.move (.tmp 5), type := 3, pos := "l08_query.go:56", after := #[{ on := 8, ground := .guard }], guard := some (8, false) }) (v := ?_) rfl (by kernel_rfl) (by kernel_rfl) (by kernel_rfl) (fun _ _ _ h => h) (Or.inl ⟨by kernel_rfl, ?_⟩) (by assumption) ?_
              rotate_left
              · intro w hSw; (try dsimp only at hSw); go_simp; try with_reducible rfl
              simp only [Act.put, List.setIfInBounds_toArray, List.set_cons_zero, List.set_cons_succ]
              refine wpAnyH_take (i := 16) (oi := { dst := some 65, op := Op.indexAddr 22 (.tmp 63) (.tmp 64), type := 0, pos := "l08_query.go:56", after := #[{ on := 14, ground := .data }, { on := 15, ground := .data }, { on := 8, ground := .guard }], guard := some (8, false) }) (v := ?_) rfl (by kernel_rfl) (by kernel_rfl) (by kernel_rfl) (fun _ _ _ h => h) (Or.inl ⟨by kernel_rfl, ?_⟩) (by assumption) ?_
              rotate_left
              · intro w hSw; (try dsimp only at hSw); go_simp; try with_reducible rfl
              simp only [Act.put, List.setIfInBounds_toArray, List.set_cons_zero, List.set_cons_succ]
              refine wpAnyH_take (i := 17) (oi := { dst := some 66, op := Op.load 9 (.tmp 65), type := 9, pos := "l08_query.go:56", after := #[{ on := 16, ground := .data }, { on := 8, ground := .guard }], guard := some (8, false) }) (v := ?_) rfl (by kernel_rfl) (by kernel_rfl) (by kernel_rfl) (fun _ _ _ h => h) (Or.inl ⟨by kernel_rfl, ?_⟩) (by assumption) ?_
              rotate_left
              · intro w hSw; (try dsimp only at hSw); go_simp; try with_reducible rfl
              simp only [Act.put, List.setIfInBounds_toArray, List.set_cons_zero, List.set_cons_succ]
              refine wpAnyH_ready (rs := [18]) (by kernel_rfl) (by simp) ?_
              refine AllReadyH.cons (o := { dst := some 67, op := Op.call { callee := Callee.value (.func 23), args := #[.tmp 61, .tmp 66], argTypes := #[22, 9] }, type := 4, pos := "l08_query.go:56", after := #[{ on := 12, ground := .data }, { on := 17, ground := .data }, { on := 8, ground := .chain }, { on := 8, ground := .guard }], guard := some (8, false) }) rfl (fun K hK => ?_) ?_
              · rw [if_pos (by kernel_rfl)]
                go_wp2_with (go_at_call 23; refine HCV.out.mono ?_; rintro e1 w6 ⟨rfl, rfl⟩)
                refine hK.out _ _ hHeld (fun hHeld => ?_)
                clear hK K
                try simp only [Act.put, List.setIfInBounds_toArray, List.set_cons_zero, List.set_cons_succ]
                refine wpAnyH_take (i := 19) (oi := { dst := some 68, op := Op.pick (.tmp 57) (.const (Value.bool true)) (.tmp 67), type := 4, pos := "l08_query.go:56", after := #[{ on := 8, ground := .data }, { on := 18, ground := .data }], guard := none }) (v := ?_) rfl (by kernel_rfl) (by kernel_rfl) (by kernel_rfl) (fun _ _ _ h => h) (Or.inl ⟨by kernel_rfl, ?_⟩) (by assumption) ?_
                rotate_left
                · intro w hSw; (try dsimp only at hSw); go_simp; try with_reducible rfl
                simp only [Act.put, List.setIfInBounds_toArray, List.set_cons_zero, List.set_cons_succ]
                refine wpAnyH_done (by kernel_rfl) ?_ _
                clear hHeld
                rcases Bool.eq_false_or_eq_true v with h | h
                · subst h
                  have hr : r = false := HNO.out (by rw [HSU.out]; rfl)
                  subst hr
                  have HBE : Hid (Below w.heap.size w wr.drew) := HBW.out.trans ((HB2.out.trans (HBD.out.mono HS1.out)).mono (by have := HB.out; omega))
                  go_wp2
                  obtain rfl : FF = Tryz.f6 := HFF.out
                  go_ret
                  exact ⟨rfl, HBE.out⟩
                · subst h
                  go_wp2
                  go_roundw
                  case rel => exact ⟨j + 1, by go_num, by omega, by show _ = _; rw [ousOk_succ, HPO.out, HSU.out]; rfl, HBD⟩
                  case measure => simp [intOf]; omega
              exact AllReadyH.nil
            exact AllReadyH.nil
          · subst h
            refine wp_region_held_drew (S := fun wz => wz.cell? ⟨B, 1, none⟩ = some (.slice (some ⟨g, og, none⟩) n1 c1) ∧ wz.cell? ⟨g, og + j, none⟩ = some (.string y)) (by kernel_rfl) HSD.out (fun hHeld => ?_)
            refine wpAnyH_take (i := 0) (oi := { dst := some 49, op := Op.move (.tmp 4), type := 22, pos := "l08_query.go:56", after := #[], guard := none }) (v := ?_) rfl (by kernel_rfl) (by kernel_rfl) (by kernel_rfl) (fun _ _ _ h => h) (Or.inl ⟨by kernel_rfl, ?_⟩) (by assumption) ?_
            rotate_left
            · intro w hSw; (try dsimp only at hSw); go_simp; try with_reducible rfl
            simp only [Act.put, List.setIfInBounds_toArray, List.set_cons_zero, List.set_cons_succ]
            refine wpAnyH_take (i := 1) (oi := { dst := some 50, op := Op.fieldAddr 32 (.tmp 1) 1, type := 0, pos := "l08_query.go:56", after := #[], guard := none }) (v := ?_) rfl (by kernel_rfl) (by kernel_rfl) (by kernel_rfl) (fun _ _ _ h => h) (Or.inl ⟨by kernel_rfl, ?_⟩) (by assumption) ?_
            rotate_left
            · intro w hSw; (try dsimp only at hSw); go_simp; try with_reducible rfl
            simp only [Act.put, List.setIfInBounds_toArray, List.set_cons_zero, List.set_cons_succ]
            refine wpAnyH_take (i := 2) (oi := { dst := some 51, op := Op.load 22 (.tmp 50), type := 22, pos := "l08_query.go:56", after := #[{ on := 1, ground := .data }], guard := none }) (v := ?_) rfl (by kernel_rfl) (by kernel_rfl) (by kernel_rfl) (fun _ _ _ h => h) (Or.inl ⟨by kernel_rfl, ?_⟩) (by assumption) ?_
            rotate_left
            · intro w hSw; (try dsimp only at hSw); go_simp; try with_reducible rfl
            simp only [Act.put, List.setIfInBounds_toArray, List.set_cons_zero, List.set_cons_succ]
            refine wpAnyH_take (i := 3) (oi := { dst := some 52, op := Op.move (.tmp 5), type := 3, pos := "l08_query.go:56", after := #[], guard := none }) (v := ?_) rfl (by kernel_rfl) (by kernel_rfl) (by kernel_rfl) (fun _ _ _ h => h) (Or.inl ⟨by kernel_rfl, ?_⟩) (by assumption) ?_
            rotate_left
            · intro w hSw; (try dsimp only at hSw); go_simp; try with_reducible rfl
            simp only [Act.put, List.setIfInBounds_toArray, List.set_cons_zero, List.set_cons_succ]
            refine wpAnyH_take (i := 4) (oi := { dst := some 53, op := Op.indexAddr 22 (.tmp 51) (.tmp 52), type := 0, pos := "l08_query.go:56", after := #[{ on := 2, ground := .data }, { on := 3, ground := .data }], guard := none }) (v := ?_) rfl (by kernel_rfl) (by kernel_rfl) (by kernel_rfl) (fun _ _ _ h => h) (Or.inl ⟨by kernel_rfl, ?_⟩) (by assumption) ?_
            rotate_left
            · intro w hSw; (try dsimp only at hSw); go_simp; try with_reducible rfl
            simp only [Act.put, List.setIfInBounds_toArray, List.set_cons_zero, List.set_cons_succ]
            refine wpAnyH_take (i := 5) (oi := { dst := some 54, op := Op.load 9 (.tmp 53), type := 9, pos := "l08_query.go:56", after := #[{ on := 4, ground := .data }], guard := none }) (v := ?_) rfl (by kernel_rfl) (by kernel_rfl) (by kernel_rfl) (fun _ _ _ h => h) (Or.inl ⟨by kernel_rfl, ?_⟩) (by assumption) ?_
            rotate_left
            · intro w hSw; (try dsimp only at hSw); go_simp; try with_reducible rfl
            simp only [Act.put, List.setIfInBounds_toArray, List.set_cons_zero, List.set_cons_succ]
            refine wpAnyH_ready (rs := [6]) (by kernel_rfl) (by simp) ?_
            refine AllReadyH.cons (o := { dst := some 55, op := Op.call { callee := Callee.value (.func 23), args := #[.tmp 49, .tmp 54], argTypes := #[22, 9] }, type := 4, pos := "l08_query.go:56", after := #[{ on := 0, ground := .data }, { on := 5, ground := .data }], guard := none }) rfl (fun K hK => ?_) ?_
            · go_wp2_with (go_at_call 23; refine HCU.out.mono ?_; rintro e1 w6 ⟨rfl, rfl⟩)
              refine hK.out _ _ hHeld (fun hHeld => ?_)
              clear hK K
              try simp only [Act.put, List.setIfInBounds_toArray, List.set_cons_zero, List.set_cons_succ]
              refine wpAnyH_take (i := 7) (oi := { dst := some 56, op := Op.unOp Go.UnOp.not 4 (.tmp 55), type := 4, pos := "l08_query.go:56", after := #[{ on := 6, ground := .data }], guard := none }) (v := ?_) rfl (by kernel_rfl) (by kernel_rfl) (by kernel_rfl) (fun _ _ _ h => h) (Or.inl ⟨by kernel_rfl, ?_⟩) (by assumption) ?_
              rotate_left
              · intro w hSw; (try dsimp only at hSw); go_simp; try with_reducible rfl
              simp only [Act.put, List.setIfInBounds_toArray, List.set_cons_zero, List.set_cons_succ]
              refine wpAnyH_take (i := 8) (oi := { dst := some 57, op := Op.move (.tmp 56), type := 4, pos := "l08_query.go:56", after := #[{ on := 7, ground := .data }, { on := 6, ground := .chain }], guard := none }) (v := ?_) rfl (by kernel_rfl) (by kernel_rfl) (by kernel_rfl) (fun _ _ _ h => h) (Or.inl ⟨by kernel_rfl, ?_⟩) (by assumption) ?_
              rotate_left
              · intro w hSw; (try dsimp only at hSw); go_simp; try with_reducible rfl
              simp only [Act.put, List.setIfInBounds_toArray, List.set_cons_zero, List.set_cons_succ]
              refine wpAnyH_take (i := 9) (oi := { dst := some 58, op := Op.fieldAddr 32 (.tmp 1) 1, type := 0, pos := "l08_query.go:56", after := #[{ on := 8, ground := .guard }], guard := some (8, false) }) (v := undef) rfl (by kernel_rfl) (by kernel_rfl) (by kernel_rfl) (fun _ _ _ h => h) (Or.inr ⟨by kernel_rfl, rfl⟩) (by assumption) ?_
              simp only [Act.put, List.setIfInBounds_toArray, List.set_cons_zero, List.set_cons_succ]
              refine wpAnyH_take (i := 10) (oi := { dst := some 59, op := Op.load 22 (.tmp 58), type := 22, pos := "l08_query.go:56", after := #[{ on := 9, ground := .data }, { on := 8, ground := .guard }], guard := some (8, false) }) (v := undef) rfl (by kernel_rfl) (by kernel_rfl) (by kernel_rfl) (fun _ _ _ h => h) (Or.inr ⟨by kernel_rfl, rfl⟩) (by assumption) ?_
              simp only [Act.put, List.setIfInBounds_toArray, List.set_cons_zero, List.set_cons_succ]
              refine wpAnyH_take (i := 11) (oi := { dst := some 60, op := Op.move (.tmp 5), type := 3, pos := "l08_query.go:56", after := #[{ on := 8, ground := .guard }], guard := some (8, false) }) (v := undef) rfl (by kernel_rfl) (by kernel_rfl) (by kernel_rfl) (fun _ _ _ h => h) (Or.inr ⟨by kernel_rfl, rfl⟩) (by assumption) ?_
              simp only [Act.put, List.setIfInBounds_toArray, List.set_cons_zero, List.set_cons_succ]
              refine wpAnyH_take (i := 12) (oi := { dst := some 61, op := Op.slice 22 (.tmp 59) none (some (.tmp 60)) none, type := 22, pos := "l08_query.go:56", after := #[{ on := 10, ground := .data }, { on := 11, ground := .data }, { on := 8, ground := .guard }], guard := some (8, false) }) (v := undef) rfl (by kernel_rfl) (by kernel_rfl) (by kernel_rfl) (fun _ _ _ h => h) (Or.inr ⟨by kernel_rfl, rfl⟩) (by assumption) ?_
              simp only [Act.put, List.setIfInBounds_toArray, List.set_cons_zero, List.set_cons_succ]
              refine wpAnyH_take (i := 13) (oi := { dst := some 62, op := Op.fieldAddr 32 (.tmp 1) 1, type := 0, pos := "l08_query.go:56", after := #[{ on := 8, ground := .guard }], guard := some (8, false) }) (v := undef) rfl (by kernel_rfl) (by kernel_rfl) (by kernel_rfl) (fun _ _ _ h => h) (Or.inr ⟨by kernel_rfl, rfl⟩) (by assumption) ?_
              simp only [Act.put, List.setIfInBounds_toArray, List.set_cons_zero, List.set_cons_succ]
              refine wpAnyH_take (i := 14) (oi := { dst := some 63, op := Op.load 22 (.tmp 62), type := 22, pos := "l08_query.go:56", after := #[{ on := 13, ground := .data }, { on := 8, ground := .guard }], guard := some (8, false) }) (v := undef) rfl (by kernel_rfl) (by kernel_rfl) (by kernel_rfl) (fun _ _ _ h => h) (Or.inr ⟨by kernel_rfl, rfl⟩) (by assumption) ?_
              simp only [Act.put, List.setIfInBounds_toArray, List.set_cons_zero, List.set_cons_succ]
              refine wpAnyH_take (i := 15) (oi := { dst := some 64, op := Op.move (.tmp 5), type := 3, pos := "l08_query.go:56", after := #[{ on := 8, ground := .guard }], guard := some (8, false) }) (v := undef) rfl (by kernel_rfl) (by kernel_rfl) (by kernel_rfl) (fun _ _ _ h => h) (Or.inr ⟨by kernel_rfl, rfl⟩) (by assumption) ?_
              simp only [Act.put, List.setIfInBounds_toArray, List.set_cons_zero, List.set_cons_succ]
              refine wpAnyH_take (i := 16) (oi := { dst := some 65, op := Op.indexAddr 22 (.tmp 63) (.tmp 64), type := 0, pos := "l08_query.go:56", after := #[{ on := 14, ground := .data }, { on := 15, ground := .data }, { on := 8, ground := .guard }], guard := some (8, false) }) (v := undef) rfl (by kernel_rfl) (by kernel_rfl) (by kernel_rfl) (fun _ _ _ h => h) (Or.inr ⟨by kernel_rfl, rfl⟩) (by assumption) ?_
              simp only [Act.put, List.setIfInBounds_toArray, List.set_cons_zero, List.set_cons_succ]
              refine wpAnyH_take (i := 17) (oi := { dst := some 66, op := Op.load 9 (.tmp 65), type := 9, pos := "l08_query.go:56", after := #[{ on := 16, ground := .data }, { on := 8, ground := .guard }], guard := some (8, false) }) (v := undef) rfl (by kernel_rfl) (by kernel_rfl) (by kernel_rfl) (fun _ _ _ h => h) (Or.inr ⟨by kernel_rfl, rfl⟩) (by assumption) ?_
              simp only [Act.put, List.setIfInBounds_toArray, List.set_cons_zero, List.set_cons_succ]
              refine wpAnyH_ready (rs := [18]) (by kernel_rfl) (by simp) ?_
              refine AllReadyH.cons (o := { dst := some 67, op := Op.call { callee := Callee.value (.func 23), args := #[.tmp 61, .tmp 66], argTypes := #[22, 9] }, type := 4, pos := "l08_query.go:56", after := #[{ on := 12, ground := .data }, { on := 17, ground := .data }, { on := 8, ground := .chain }, { on := 8, ground := .guard }], guard := some (8, false) }) rfl (fun K hK => ?_) ?_
              · rw [if_neg (by refine Bool.eq_false_iff.1 ?_; kernel_rfl)]
                refine hK.out _ _ hHeld (fun hHeld => ?_)
                clear hK K
                try simp only [Act.put, List.setIfInBounds_toArray, List.set_cons_zero, List.set_cons_succ]
                refine wpAnyH_take (i := 19) (oi := { dst := some 68, op := Op.pick (.tmp 57) (.const (Value.bool true)) (.tmp 67), type := 4, pos := "l08_query.go:56", after := #[{ on := 8, ground := .data }, { on := 18, ground := .data }], guard := none }) (v := ?_) rfl (by kernel_rfl) (by kernel_rfl) (by kernel_rfl) (fun _ _ _ h => h) (Or.inl ⟨by kernel_rfl, ?_⟩) (by assumption) ?_
                rotate_left
                · intro w hSw; (try dsimp only at hSw); go_simp; try with_reducible rfl
                simp only [Act.put, List.setIfInBounds_toArray, List.set_cons_zero, List.set_cons_succ]
                refine wpAnyH_done (by kernel_rfl) ?_ _
                clear hHeld
                have hr : r = false := HNO.out (by rw [HSU.out]; rfl)
                subst hr
                have HBE : Hid (Below w.heap.size w wr.drew) := HBW.out.trans ((HB2.out.trans (HBD.out.mono HS1.out)).mono (by have := HB.out; omega))
                go_wp2
                obtain rfl : FF = Tryz.f6 := HFF.out
                go_ret
                exact ⟨rfl, HBE.out⟩
              exact AllReadyH.nil
            exact AllReadyH.nil
        · obtain rfl : j = n1 := by omega
          have HOUS : Hid (ousOk (nmL t t.length) o o.length = true) := by rw [← HNS.out, HL.out.1]; exact HPO.out
          go_upto_region 14 with fail
          clear q0 q1 q2 q3
          go_wp2
          go_loopw [6] (fun i wr => ∃ m : Nat, i = .int .i64 (m : Int) ∧ m ≤ n3 ∧ Hid (flsOk ns f m = true) ∧ Hid (Below w1.heap.size w1 wr)) (fun i _ => n3 - (intOf i).toNat)
          case atStart => exact ⟨0, rfl, by omega, rfl, HBO⟩
          case round =>
            obtain ⟨m, rfl, hm, HPF, HBF⟩ := hrel
            obtain ⟨q0, q1, q2, q3⟩ := q_cells (HQ1.out.of_block (HBF.out.block _ HQ1.out.lt))
            by_cases hlm : m < n3
            · have hlm1 : (m : Int) < (n3 : Int) := by omega
              have hlm0 : (0 : Int) ≤ (m : Int) := by omega
              obtain ⟨g, og, rfl, _, hgh, hc⟩ := (HA1.out.2.2.below HBF.out (by have := HH.out; have := HS1.out; omega)).at hlm
              obtain ⟨x, HX⟩ : ∃ x, Hid (x = fat f m) := ⟨_, rfl⟩
              have p0 := hc 0 (by omega)
              have p1 := hc 1 (by omega)
              have p2 := hc 2 (by omega)
              have p3 := hc 3 (by omega)
              rw [fC0, ← HX.out] at p0
              rw [fC1, ← HX.out] at p1
              rw [fC2, ← HX.out] at p2
              rw [fC3, ← HX.out] at p3
              simp only [Nat.add_zero] at p0
              rw [← Nat.add_assoc] at p1 p2 p3
              obtain ⟨f0, f1, f2, f3⟩ := x
              dsimp only at p0 p1 p2 p3
              clear hc hgh
              obtain ⟨W4, HW4⟩ : ∃ W4, Hid (W4 = wr.alloc (.cells #[.string f0, .int .i64 f1, .string f2, .int .i64 f3] 53)) := ⟨_, rfl⟩
              obtain ⟨E, HE⟩ : ∃ E, Hid (E = wr.heap.size) := ⟨_, rfl⟩
              have HX4 : Hid (Blk W4 E 4 (q4 (.string f0) (.int .i64 f1) (.string f2) (.int .i64 f3))) := by rw [HW4.out]; exact blk_four wr E HE.out _ _ _ _ _
              have HB4 : Hid (Below w1.heap.size w1 W4) := by rw [HW4.out]; exact HBF.out.trans ((below1 wr _).mono HBF.out.size)
              go_upto_region 18 with fail
              rw [← HE.out]
              first | rw [← HW4.out] | (rw [show _ = W4 from HW4.out.symm])
              clear HW4 q0 q1 q2 q3 p0 p1 p2 p3
              obtain ⟨z0, z1, z2, z3⟩ := q_cells HX4.out
              obtain ⟨u0, HU0⟩ : ∃ b : Bool, Hid (b = inL f0 ns) := ⟨_, rfl⟩
              obtain ⟨u1, HU1⟩ : ∃ b : Bool, Hid (b = (decide ((1 : Int) ≤ f1) && decide (f1 ≤ 2))) := ⟨_, rfl⟩
              obtain ⟨u2, HU2⟩ : ∃ b : Bool, Hid (b = inL f2 ns) := ⟨_, rfl⟩
              obtain ⟨u9, HU9⟩ : ∃ b : Bool, Hid (b = (decide ((0 : Int) ≤ f3) && decide (f3 ≤ 99))) := ⟨_, rfl⟩
              have HFO : Hid (flOk ns (fat f m) = (u0 && u1 && ((f2.toList == (⟨#[]⟩ : ByteArray).toList) || (u2 && decide (f3 = 0))) && u9)) := by rw [HU0.out, HU1.out, HU2.out, HU9.out, ← HX.out]; rfl
              have HNO : Hid (flOk ns (fat f m) = false → r = false) := fun h => by rw [HR.out]; exact qOk_fl (by rw [← HNS.out, HL.out.2.2]; exact flsOk_no (i := m) hlm h)
              have HYES : Hid (flOk ns (fat f m) = true → flsOk ns f (m + 1) = true) := fun h => by rw [flsOk_succ, HPF.out, h]; rfl
              clear HX HX4 HPF
              have HBE : Hid (Below w.heap.size w W4) := HBW.out.trans ((HB2.out.trans (HB4.out.mono HS1.out)).mono (by have := HB.out; omega))
              go_wp2_with fail
              refine (HIL.out f0 u0 _ HB4.out HU0.out).mono ?_
              rintro e1 w4 ⟨rfl, rfl⟩
              rcases Bool.eq_false_or_eq_true u0 with h | h
              rotate_left
              · subst h
                have hr : r = false := HNO.out (by rw [HFO.out]; rfl)
                subst hr
                go_wp2
                obtain rfl : FF = Tryz.f6 := HFF.out
                go_ret
                exact ⟨rfl, HBE.out⟩
              subst h
              go_wp2_with fail
              refine (HIN.out _ _ _ u1 _ HU1.out).mono ?_
              rintro e1 w4 ⟨rfl, rfl⟩
              rcases Bool.eq_false_or_eq_true u1 with h | h
              rotate_left
              · subst h
                have hr : r = false := HNO.out (by rw [HFO.out]; rfl)
                subst hr
                go_wp2
                obtain rfl : FF = Tryz.f6 := HFF.out
                go_ret
                exact ⟨rfl, HBE.out⟩
              subst h
              by_cases he : f2 = ⟨#[]⟩
              · subst he
                have HE2 : Hid (flOk ns (fat f m) = u9) := by show _ = _; rw [HFO.out]; simp
                go_wp2_with fail
                refine (HIN.out _ _ _ u9 _ HU9.out).mono ?_
                rintro e1 w4 ⟨rfl, rfl⟩
                rcases Bool.eq_false_or_eq_true u9 with h | h
                · subst h
                  go_wp2
                  go_roundw
                  case rel => exact ⟨m + 1, by go_num, by omega, HYES.out HE2.out, HB4⟩
                  case measure => simp [intOf]; omega
                · subst h
                  have hr : r = false := HNO.out HE2.out
                  subst hr
                  go_wp2
                  obtain rfl : FF = Tryz.f6 := HFF.out
                  go_ret
                  exact ⟨rfl, HBE.out⟩
              · have he0 : (f2.toList == (⟨#[]⟩ : ByteArray).toList) = false := by rw [toList_eq]; exact decide_eq_false he
                have HE2 : Hid (flOk ns (fat f m) = (u2 && decide (f3 = 0) && u9)) := by show _ = _; rw [HFO.out, he0]; simp
                have he1 : f2.toList.isEmpty = false := by rw [List.isEmpty_eq_false_iff]; intro e; exact he (toList_inj.1 (by rw [e]; decide +kernel))
                clear he0 he
                go_wp2_with fail
                refine (HIL.out f2 u2 _ HB4.out HU2.out).mono ?_
                rintro e1 w4 ⟨rfl, rfl⟩
                rcases Bool.eq_false_or_eq_true u2 with h | h
                · subst h
                  by_cases h0 : f3 = 0
                  · subst h0
                    have h9 : u9 = true := by rw [HU9.out]; rfl
                    subst h9
                    go_wp2_with fail
                    refine (HIN.out _ _ _ true _ HU9.out).mono ?_
                    rintro e1 w4 ⟨rfl, rfl⟩
                    go_wp2
                    go_roundw
                    case rel => exact ⟨m + 1, by go_num, by omega, HYES.out (by rw [HE2.out]; rfl), HB4⟩
                    case measure => simp [intOf]; omega
                  · have hr : r = false := HNO.out (by rw [HE2.out, decide_eq_false h0]; rfl)
                    subst hr
                    go_wp2
                    obtain rfl : FF = Tryz.f6 := HFF.out
                    go_ret
                    exact ⟨rfl, HBE.out⟩
                · subst h
                  have hr : r = false := HNO.out (by rw [HE2.out]; rfl)
                  subst hr
                  go_wp2
                  obtain rfl : FF = Tryz.f6 := HFF.out
                  go_ret
                  exact ⟨rfl, HBE.out⟩
            · obtain rfl : m = n3 := by omega
              have hr : r = decide ((nn : Int) ≤ 4) := by
                rw [HR.out, qOk_end (by rw [HL.out.1, HL.out.2.1, HL.out.2.2]; exact HOKN.out) HATS.out HOUS.out (by rw [← HNS.out, HL.out.2.2]; exact HPF.out), ← HNS.out, HNN.out]
                by_cases h : nn ≤ 4
                · rw [decide_eq_true h, decide_eq_true (by omega)]
                · rw [decide_eq_false h, decide_eq_false (by omega)]
              subst hr
              have HBE : Hid (Below w.heap.size w wr) := HBW.out.trans ((HB2.out.trans (HBF.out.mono HS1.out)).mono (by have := HB.out; omega))
              go_wp2
              obtain rfl : FF = Tryz.f6 := HFF.out
              go_ret
              exact ⟨rfl, HBE.out⟩
end Go.Proofs.YtbepmeipjdpipaaGreat
