/-
  Graphs that are appended to a list; the parts of a graph: all of them together are it, each edge is in one.
-/
import Derived.Test.YtigojleieihdoaaDoorGs
import Derived.Test.YtigojleieihdoaaDoorPrt
import Derived.Test.YtigojleieihdoaaDoorDrE
namespace Go.Proofs.YtigojleieihdoaaDoor
open Go.RowKit

theorem Tryd.info26 : (Tryd.prog.info? 26).map (fun i => (i.zero, i.size, i.bytes)) = some (some (.agg #[.int .i64 0, .slice none 0 0]), 2, 32) := by kernel_rfl
/-- a graph as it lies in a list: its Size and its slice -/
abbrev Pe := Int × Option Addr × Nat × Nat
def pat (T : List Pe) (i : Nat) : Pe := T.getD i (0, none, 0, 0)
def pcells (T : List Pe) : List Value := T.flatMap fun p => [.int .i64 p.1, .slice p.2.1 p.2.2.1 p.2.2.2]
theorem pcells_snoc (T : List Pe) (x : Pe) : pcells (T ++ [x]) = pcells T ++ [.int .i64 x.1, .slice x.2.1 x.2.2.1 x.2.2.2] := by simp [pcells]
theorem pcells_len (T : List Pe) : (pcells T).length = T.length * 2 := by
  induction T with
  | nil => rfl
  | cons x T ih => show ([_, _] ++ pcells T).length = _; rw [List.length_append, ih]; simp; omega
theorem pcells_at : ∀ (T : List Pe) (i : Nat), i < T.length → (pcells T)[i * 2]? = some (.int .i64 (pat T i).1) ∧ (pcells T)[i * 2 + 1]? = some (.slice (pat T i).2.1 (pat T i).2.2.1 (pat T i).2.2.2)
  | x :: T, 0, _ => ⟨rfl, rfl⟩
  | x :: T, i + 1, h => by
    have := pcells_at T i (by simpa using h)
    have e : pcells (x :: T) = .int .i64 x.1 :: .slice x.2.1 x.2.2.1 x.2.2.2 :: pcells T := rfl
    have e2 : pat (x :: T) (i + 1) = pat T i := by simp [pat, List.getD]
    rw [e, e2, show (i + 1) * 2 = i * 2 + 1 + 1 by omega, show i * 2 + 1 + 1 + 1 = (i * 2 + 1) + 1 + 1 by omega]
    simpa using this
theorem pat_app {T : List Pe} {x : Pe} {i : Nat} (h : i < T.length) : pat (T ++ [x]) i = pat T i := by simp [pat, List.getD, List.getElem?_append_left h]
theorem pat_last (T : List Pe) (x : Pe) : pat (T ++ [x]) T.length = x := by simp [pat, List.getD]
theorem gat_app {G : List Gr} {x : Gr} {i : Nat} (h : i < G.length) : gat (G ++ [x]) i = gat G i := by simp [gat, List.getD, List.getElem?_append_left h]
theorem gat_last (G : List Gr) (x : Gr) : gat (G ++ [x]) G.length = x := by simp [gat, List.getD]
/-- the graphs of a list -/
structure PtsIn (lo hi : Nat) (w : World) (T : List Pe) (G : List Gr) : Prop where
  len : T.length = G.length
  at' : ∀ i, i < G.length → (pat T i).1 = (gat G i).1 ∧ (pat T i).2.2.1 = (gat G i).2.length ∧ EdgesIn lo hi w (pat T i).2.1 (gat G i).2
theorem PtsIn.nil (lo hi : Nat) (w : World) : PtsIn lo hi w [] [] := ⟨rfl, fun i hi => absurd hi (by simp)⟩
theorem PtsIn.below {lo hi B : Nat} {w w' : World} {T : List Pe} {G : List Gr} (h : PtsIn lo hi w T G) (hb : Below B w w') (hB : hi ≤ B) : PtsIn lo hi w' T G :=
  ⟨h.len, fun i hi => ⟨(h.at' i hi).1, (h.at' i hi).2.1, (h.at' i hi).2.2.below hb hB⟩⟩
theorem PtsIn.wide {lo hi lo' hi' : Nat} {w : World} {T : List Pe} {G : List Gr} (h : PtsIn lo hi w T G) (h1 : lo' ≤ lo) (h2 : hi ≤ hi') : PtsIn lo' hi' w T G :=
  ⟨h.len, fun i hi => ⟨(h.at' i hi).1, (h.at' i hi).2.1, (h.at' i hi).2.2.wide h1 h2⟩⟩
theorem PtsIn.kept {lo hi : Nat} {p : Nat → Prop} {w w' : World} {T : List Pe} {G : List Gr} (h : PtsIn lo hi w T G) (hk : KeptP p w w') (hh : hi ≤ w.heap.size) (hp : ∀ k, lo ≤ k → k < hi → ¬ p k) : PtsIn lo hi w' T G :=
  ⟨h.len, fun i hi => ⟨(h.at' i hi).1, (h.at' i hi).2.1, (h.at' i hi).2.2.kept hk hh hp⟩⟩
theorem PtsIn.snoc {lo hi : Nat} {w : World} {T : List Pe} {G : List Gr} (h : PtsIn lo hi w T G) {s : Int} {a : Option Addr} {n c : Nat} {l : List Ed} (hl : l.length = n) (he : EdgesIn lo hi w a l) : PtsIn lo hi w (T ++ [(s, a, n, c)]) (G ++ [(s, l)]) := by
  refine ⟨by rw [List.length_append, List.length_append, h.len]; rfl, fun i hi => ?_⟩
  rw [List.length_append, List.length_singleton] at hi
  by_cases e : i < G.length
  · rw [pat_app (by rw [h.len]; exact e), gat_app e]
    exact h.at' i e
  · obtain rfl : i = G.length := by omega
    have := pat_last T (s, a, n, c)
    rw [h.len] at this
    rw [this, gat_last]
    exact ⟨rfl, hl.symm, he⟩
theorem grs_of {B n lo hi : Nat} {w : World} {v : Value} {T : List Pe} {G : List Gr} (ho : w.ownsRow B 26 2 v n (pcells T)) (hp : PtsIn lo hi w T G) (hl : G.length = n) (hh : hi ≤ w.heap.size) : ∃ a cap, v = .slice a n cap ∧ GrsIn 0 w.heap.size w a G := by
  rcases ho.2 with ⟨rfl, h0⟩ | ⟨g, cap, cur, rfl, hg, hb, _⟩
  · exact ⟨none, 0, by rw [h0], .inl (List.length_eq_zero_iff.1 (by omega))⟩
  · refine ⟨_, cap, rfl, .inr ⟨g, 0, rfl, Nat.zero_le _, (Array.getElem?_eq_some_iff.1 hb).1, fun i hi => ?_⟩⟩
    have hk := blk_own ho
    obtain ⟨e1, e2, e3⟩ := hp.at' i hi
    obtain ⟨c0, c1⟩ := pcells_at T i (by rw [hp.len]; exact hi)
    have d0 : w.cell? ⟨g, i * 2, none⟩ = some (.int .i64 (pat T i).1) := by rw [hk.cell (i := i * 2) (by omega)]; simp [List.getD, c0]
    have d1 : w.cell? ⟨g, i * 2 + 1, none⟩ = some (.slice (pat T i).2.1 (pat T i).2.2.1 (pat T i).2.2.2) := by rw [hk.cell (i := i * 2 + 1) (by omega)]; simp [List.getD, c1]
    rw [Nat.zero_add]
    refine ⟨(pat T i).2.1, (pat T i).2.2.2, by rw [← e1]; exact d0, by rw [← e2]; exact d1, e3.wide (Nat.zero_le _) hh⟩

/-- so many parts -/
def partsG (s : Int) (L : List Ed) (nw : Int) (k : Nat) : List Gr := (List.range k).map fun (i : Nat) => (s, partL s L (i : Int) nw)
theorem partsG_len (s : Int) (L : List Ed) (nw : Int) (k : Nat) : (partsG s L nw k).length = k := by simp [partsG]
theorem partsG_snoc (s : Int) (L : List Ed) (nw : Int) (k : Nat) : partsG s L nw (k + 1) = partsG s L nw k ++ [(s, partL s L (k : Int) nw)] := by simp [partsG, List.range_succ]
theorem partsG_at {s : Int} {L : List Ed} {nw : Int} {k i : Nat} (h : i < k) : gat (partsG s L nw k) i = (s, partL s L (i : Int) nw) := by simp [partsG, gat, List.getD, h]
theorem okG_part {s : Int} {L : List Ed} (h : okG s L = true) (wk nw : Int) : okG s (partL s L wk nw) = true := by
  obtain ⟨h1, h2, h3, h4⟩ := okG_iff.1 h
  rw [partL_yes wk nw h]
  refine okG_iff.2 ⟨h1, Nat.le_trans (List.length_filter_le _ _) h2, fun x hx => h3 x (List.mem_filter.1 hx).1, h4.filter _⟩
theorem mem_cat {G : List Gr} {x : Ed} : x ∈ catTo G G.length ↔ ∃ i, i < G.length ∧ x ∈ (gat G i).2 := by
  unfold catTo
  rw [List.take_length, List.mem_flatMap]
  constructor
  · rintro ⟨g, hg, hx⟩
    obtain ⟨i, hi, rfl⟩ := List.getElem_of_mem hg
    exact ⟨i, hi, by rw [gat_get hi]; exact hx⟩
  · rintro ⟨i, hi, hx⟩
    exact ⟨gat G i, gat_mem hi, hx⟩
theorem togL_parts {s : Int} {L : List Ed} {nw : Nat} (h : okG s L = true) (hn : 1 ≤ nw) : togL (partsG s L (nw : Int) nw) = L := by
  unfold togL
  refine srtE_ext (putOn_srt _ [] List.Pairwise.nil) (okG_iff.1 h).2.2.2 (fun x => ?_)
  rw [putOn_mem, mem_cat]
  constructor
  · rintro (hx | ⟨i, hi, hx⟩)
    · simp at hx
    · rw [partsG_len] at hi
      rw [partsG_at hi, partL_yes _ _ h] at hx
      exact (List.mem_filter.1 hx).1
  · intro hx
    have h0 := own_ge x.1 (nw : Int)
    have h1 := own_lt (v := x.1) (n := (nw : Int)) (by omega)
    refine .inr ⟨(ownOf x.1 (nw : Int)).toNat, by rw [partsG_len]; omega, ?_⟩
    rw [partsG_at (by omega), partL_yes _ _ h]
    exact List.mem_filter.2 ⟨hx, by simp only [decide_eq_true_eq]; omega⟩
theorem togB_parts {s : Int} {L : List Ed} {nw : Nat} (h : okG s L = true) (hn : 1 ≤ nw) : togB (partsG s L (nw : Int) nw) = true := by
  have h0 : (gat (partsG s L (nw : Int) nw) 0).1 = s := by rw [partsG_at (by omega)]
  rw [togB_good (by rw [partsG_len]; omega) (fun i hi => by rw [partsG_len] at hi; rw [h0, partsG_at hi]; exact ⟨okG_part h _ _, rfl⟩), h0, togL_parts h hn]
  exact h
theorem togS_parts {s : Int} {L : List Ed} {nw : Nat} (h : okG s L = true) (hn : 1 ≤ nw) : togS (partsG s L (nw : Int) nw) = s := by rw [togS_yes (togB_parts h hn), partsG_at (by omega)]
theorem togE_parts {s : Int} {L : List Ed} {nw : Nat} (h : okG s L = true) (hn : 1 ≤ nw) : togE (partsG s L (nw : Int) nw) = L := by rw [togE_yes (togB_parts h hn), togL_parts h hn]
/-- how many edges the parts below k have -/
def pSum (nw : Int) (L : List Ed) : Nat → Nat
  | 0 => 0
  | k + 1 => pSum nw L k + (L.filter (fun e => decide (ownOf e.1 nw = (k : Int)))).length
theorem pSum_nil (nw : Int) (k : Nat) : pSum nw [] k = 0 := by
  induction k with
  | zero => rfl
  | succ k ih => rw [pSum, ih]; rfl
theorem pSum_cons (nw : Int) (x : Ed) (L : List Ed) (k : Nat) : pSum nw (x :: L) k = pSum nw L k + (if ownOf x.1 nw < (k : Int) then 1 else 0) := by
  induction k with
  | zero =>
    have := own_ge x.1 nw
    rw [if_neg (by omega)]; rfl
  | succ k ih =>
    rw [pSum, pSum, ih]
    have := own_ge x.1 nw
    by_cases h : ownOf x.1 nw < (k : Int)
    · rw [if_pos h, if_pos (by omega), List.filter_cons_of_neg (by simp; omega)]; omega
    · by_cases h2 : ownOf x.1 nw = (k : Int)
      · rw [if_neg h, if_pos (by omega), List.filter_cons_of_pos (by simpa using h2), List.length_cons]; omega
      · rw [if_neg h, if_neg (by omega), List.filter_cons_of_neg (by simpa using h2)]; omega
theorem pSum_all {nw : Nat} (h : 1 ≤ nw) (L : List Ed) : pSum (nw : Int) L nw = L.length := by
  induction L with
  | nil => exact pSum_nil _ _
  | cons x L ih =>
    have := own_lt (v := x.1) (n := (nw : Int)) (by omega)
    rw [pSum_cons, ih, if_pos (by omega), List.length_cons]
theorem pSum_step {s : Int} {L : List Ed} (nw : Int) (h : okG s L = true) (k : Nat) : pSum nw L (k + 1) = pSum nw L k + (partL s L (k : Int) nw).length := by rw [pSum, partL_yes _ _ h]
theorem cat_parts {s : Int} {L : List Ed} (nw : Int) (n : Nat) (h : okG s L = true) : ∀ k, k ≤ n → (catTo (partsG s L nw n) k).length = pSum nw L k
  | 0, _ => by simp [catTo, pSum]
  | k + 1, hk => by rw [catTo_step (by rw [partsG_len]; omega), List.length_append, cat_parts nw n h k (by omega), partsG_at (by omega), pSum_step nw h]
theorem cat_le {G : List Gr} {m : Nat} (h : ∀ i, i < G.length → (gat G i).2.length ≤ m) : ∀ k, k ≤ G.length → (catTo G k).length ≤ k * m
  | 0, _ => by simp [catTo]
  | k + 1, hk => by
    rw [catTo_step (by omega), List.length_append, Nat.succ_mul]
    have := cat_le h k (by omega)
    have := h k (by omega)
    omega
theorem news_two' (w2 : World) (x y : Value) (T : TypeId) : ∀ j u, [x, y][j]? = some u → (w2.alloc (.cells #[x, y] T)).cell? ((⟨w2.heap.size, 0, none⟩ : Addr).add j) = some u := by
  intro j u hu
  have hk := blk_two w2 w2.heap.size rfl x y T
  rw [add_none, Nat.zero_add]
  rcases j with _ | _ | j
  · simp at hu; subst hu; exact hk.cell (i := 0) (by omega)
  · simp at hu; subst hu; exact hk.cell (i := 1) (by omega)
  · simp at hu
end Go.Proofs.YtigojleieihdoaaDoor
