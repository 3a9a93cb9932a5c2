/-
  The maker's arcs are few; join over a maker in memory.
-/
import Derived.Test.YtkcflhlipdnbnaaJn09
import Derived.Deep.DeepAppendRoom
import Derived.Test.YtkcflhlipdnbnaaJn06
namespace Go.Proofs.Ytkcflhlipdnbnaa
open Go.RowKit

theorem nodup_lt : ∀ (n : Nat) (l : List Nat), l.Nodup → (∀ x, x ∈ l → x < n) → l.length ≤ n
  | 0, l, _, h => by
    cases l with
    | nil => exact Nat.le_refl _
    | cons x l => exact absurd (h x (List.mem_cons_self ..)) (by omega)
  | n + 1, l, hn, h => by
    by_cases hm : n ∈ l
    · have h1 := nodup_lt n (l.erase n) (hn.erase n) (fun x hx => by
        have h2 := (List.Nodup.mem_erase_iff hn).1 hx
        have h3 := h x h2.2
        have h4 := h2.1
        omega)
      have h2 := List.length_erase_of_mem hm
      omega
    · have h1 := nodup_lt n l hn (fun x hx => by
        have h3 := h x hx
        by_cases e : x = n
        · subst e; exact absurd hx hm
        · omega)
      omega
theorem MkOk.few {s : MkS} (h : MkOk s) : s.ar.length ≤ 625 := by
  have h1 : (s.ar.map fun x => x.1.toNat * 25 + x.2.2.toNat).Nodup := by
    refine List.pairwise_map.2 (h.srt.nodup.imp_of_mem fun {x y} hx hy hne => ?_)
    obtain ⟨f, t, a1, a2, a3, a4, rfl⟩ := h.arc x hx
    obtain ⟨g, u, b1, b2, b3, b4, rfl⟩ := h.arc y hy
    intro e
    have hl := h.len
    simp only [Int.toNat_natCast] at e
    obtain ⟨rfl, rfl⟩ : f = g ∧ t = u := by omega
    exact hne rfl
  have h2 := nodup_lt 625 _ h1 (fun k hk => by
    obtain ⟨x, hx, rfl⟩ := List.mem_map.1 hk
    obtain ⟨f, t, a1, a2, a3, a4, rfl⟩ := h.arc x hx
    have hl := h.len
    simp only [Int.toNat_natCast]
    omega)
  rwa [List.length_map] at h2
theorem own_rowIn {w : World} {H M : Nat} {v : Value} {l : List Int} (h : w.ownsRow H 3 1 v l.length (rowCells l)) (hM : M ≤ H) : ∃ a c, v = .slice a l.length c ∧ RowIn M w.heap.size w a l := by
  obtain ⟨a, hw⟩ : ∃ a : Nat, a = 0 := ⟨0, rfl⟩
  rcases h.2 with ⟨rfl, h0⟩ | ⟨g, cap, cur, rfl, hg, hb, _⟩
  · exact ⟨none, 0, by rw [h0], .inl (List.length_eq_zero_iff.1 h0)⟩
  · refine ⟨_, cap, rfl, .inr ⟨g, 0, rfl, by omega, (Array.getElem?_eq_some_iff.1 hb).1, fun i hi => ?_⟩⟩
    have hk := blk_own h
    rw [Nat.mul_one] at hk
    have := hk.cell hi
    rw [Nat.zero_add, this]
    simp [rowCells, hi]
theorem lab_in {w : World} {M : Nat} {a : Option Addr} {c : Nat} {lb : List Int} (h : w.ownsRow (M + 1) 5 1 (.slice a lb.length c) lb.length (lbV lb)) : FlIn 1 (M + 1) w.heap.size w a lb.length (lbC lb) := by
  rcases h.2 with ⟨e, h0⟩ | ⟨g, cap, cur, e, hg, hb, _⟩
  · exact .inl h0
  · simp only [Value.slice.injEq, true_and] at e
    obtain ⟨rfl, rfl⟩ := e
    refine .inr ⟨g, 0, rfl, by omega, (Array.getElem?_eq_some_iff.1 hb).1, fun j hj => ?_⟩
    have hk := blk_own h
    have := hk.cell hj
    rw [Nat.zero_add, this]
    simp at hj
    simp [lbV, lbC, hj]
/-- join over the maker in memory: rows and labels stay as they are -/
theorem join_mk (M H : Nat) (pv lv : Value) (s : MkS) (aa : Option Addr) (an ac : Nat) (fv gv : Value) (fs ts : List Int) (w : World) (hm : Mk M w pv lv s aa an ac) (hs : MkOk s) (hH : M < H) (hf : Rw H w fv lv fs) (hg : Rw H w gv lv ts) (hfs : ∀ x, x ∈ fs → ∃ t : Nat, 1 ≤ t ∧ t ≤ s.lb.length ∧ x = (t : Int)) (hts : ∀ x, x ∈ ts → ∃ t : Nat, 1 ≤ t ∧ t ≤ s.lb.length ∧ x = (t : Int)) (hfl : fs.length ≤ 24) (htl : ts.length ≤ 24) :
    Calls Try.prog 35 #[.pointer (some ⟨M, 0, none⟩), fv, gv] w fun e w' => ∃ aa' an' ac', e = .returned (.tuple #[]) ∧ Hid (Mk M w' pv lv { s with ar := joinF s.lb fs ts s.ar } aa' an' ac') ∧ Hid (KeptP (fun c => c = M) w w') := by
  have _ := hfs
  obtain ⟨fa, fc, rfl, hfi⟩ := own_rowIn (M := M + 1) hf.own (by omega)
  obtain ⟨ga, gc, rfl, hgi⟩ := own_rowIn (M := M + 1) hg.own (by omega)
  obtain ⟨la, lc, rfl, _⟩ := own_shape hm.lab
  have hm2 : fs.length * ts.length ≤ 24 * 24 := Nat.mul_le_mul hfl htl
  have h := join_any M pv la s.lb.length lc (M + 1) w.heap.size s.lb aa an ac s.ar s.bad fa fs.length fc fs ga ts.length gc ts w hm.blk (lab_in hm.lab) (by omega) (Nat.le_refl _) rfl hs.len hm.arc hm.len hfi rfl hgi rfl hts (by have := hs.few; have := hm.len; omega) (by omega) (by omega)
  refine h.mono ?_
  rintro e w' ⟨rfl, aa', an', ac', HB, HL, HE, HK, HNO⟩
  refine ⟨aa', an', ac', rfl, ⟨HB.out, HL.out, HE.out, fun b o e => ?_, owns_keptP hm.lab HK.out (fun c h e => ?_)⟩, HK⟩
  · rcases HNO.out with h | h
    · rw [h] at e
      have h3 := hm.off b o e
      exact ⟨h3.1, Nat.lt_of_lt_of_le h3.2.1 HK.out.size, h3.2.2⟩
    · have h3 := h b o e
      have h4 := hm.blk.lt
      exact ⟨by omega, h3.2, fun h5 => by have h6 := (hm.lab.lt b h5).2; omega⟩
  · have h1 := (hm.lab.lt c h).1
    have h2 : c = M := e
    omega
end Go.Proofs.Ytkcflhlipdnbnaa

/-
  What the model's look holds while it goes through a piece's kids: in memory, step by step.
-/
namespace Go.Proofs.Ytkcflhlipdnbnaa
open Go.RowKit

section
variable {P : Program}
/-- append onto a row of the call's own, from whatever source; where the row lies then -/
theorem wp_append_row2 (w : World) {o : Oper} {a : Act} {K : Act → World → Prop} {Q : Exit → Act → World → Prop} (s x : Operand) (t : TypeId)
    (ho : o.op = .call { callee := .builtin .append, args := #[s, x], argTypes := #[t, t] })
    (base : Nat) (e : TypeId) (i : TypeInfo) (z : Value) (size bytes : Nat) (ht : P.underlying t = some (.slice e)) (hi : P.info? e = some i) (hz : i.zero = some z)
    (hsize : i.size = size) (hby : i.bytes = bytes) (hzs : z.cells.size = size) (hsz : 0 < size)
    (v : Value) (n : Nat) (xs : List Value) (hs : a.eval s = v) (hown : w.ownsRow base e size v n xs)
    (ao : Option Addr) (m c : Nat) (news : List Value) (hx : a.eval x = .slice ao m c) (h0 : ao = none → m = 0) (hl : news.length = m * size) (hnews : ∀ ad, ao = some ad → ∀ j u, news[j]? = some u → w.cell? (ad.add j) = some u) (h1 : ∀ u ∈ news, u.oneCell' = true)
    (h63 : n + m ≤ maxLen) (hbytes : (n + m) * bytes ≤ 140737488355328) (hbase : base ≤ w.heap.size)
    (h : ∀ v' w', w'.ownsRow base e size v' (n + m) (xs ++ news) → w.grownBy w' v.ownBlock → (v'.ownBlock = v.ownBlock ∨ ∃ g, v'.ownBlock = some g ∧ w.heap.size ≤ g) → K (a.put o.dst v') w') : o.wp P a w K Q := by
  cases ao with
  | none =>
    obtain rfl := h0 rfl
    have hnil : news = [] := List.length_eq_zero_iff.1 (by simpa using hl)
    subst hnil
    have hr := run_append_none (P := P) w base t o.type e i size ht hi v n c xs hown
    unfold Oper.wp execOp
    simp only [ho, resolve, invoke, builtin, Sem.run_bind, Sem.run_pure, Result.andThen_ok, List.map_toArray, List.map_cons, List.map_nil, hs, hx, hr]
    exact h v w (by simpa using hown) ⟨rfl, rfl, rfl, Nat.le_refl _, fun _ _ _ => rfl⟩ (.inl rfl)
  | some ad =>
    rcases Nat.eq_zero_or_pos m with hm | hm
    · subst hm
      have hcase := hown.2
      rcases hcase with ⟨rfl, rfl⟩ | ⟨g, cap, cur, rfl, _, _, hnc, _⟩
      · exact wp_append_own w s x t ho base e i z size bytes ht hi hz hsize hby hzs hsz _ _ xs hs hown ad 0 c news hx hl (hnews ad rfl) h1 h63 hbytes hbase (fun v' w' h2 h3 h4 => h v' w' h2 h3 (.inl (by rw [h4.2 ⟨rfl, rfl⟩])))
      · exact wp_append_own_spare w s x t ho base e i size ht hi hsize g n cap xs hs hown ad 0 c news hx hl (hnews ad rfl) h1 (by omega) (fun w' h2 h3 => h _ w' h2 h3 (.inl rfl))
    · exact wp_append_lies w s x t ho base e i z size bytes ht hi hz hsize hby hzs hsz v n xs hs hown ad m c news hx hl (hnews ad rfl) h1 hm h63 hbytes hbase w.heap.size rfl (fun g cap w' h2 h3 h4 _ => h _ w' h2 h3 (by
        rcases h4 with h4 | h4
        · exact .inl h4.symm
        · exact .inr ⟨g, rfl, by omega⟩))
theorem wpList_append_row2 (w : World) {ops : Array Oper} {rest : List Oper} {o : Oper} {a : Act} {Q : Exit → Act → World → Prop} (hgd : o.guard = none) (s x : Operand) (t : TypeId)
    (ho : o.op = .call { callee := .builtin .append, args := #[s, x], argTypes := #[t, t] })
    (base : Nat) (e : TypeId) (i : TypeInfo) (z : Value) (size bytes : Nat) (ht : P.underlying t = some (.slice e)) (hi : P.info? e = some i) (hz : i.zero = some z)
    (hsize : i.size = size) (hby : i.bytes = bytes) (hzs : z.cells.size = size) (hsz : 0 < size)
    (v : Value) (n : Nat) (xs : List Value) (hs : a.eval s = v) (hown : w.ownsRow base e size v n xs)
    (ao : Option Addr) (m c : Nat) (news : List Value) (hx : a.eval x = .slice ao m c) (h0 : ao = none → m = 0) (hl : news.length = m * size) (hnews : ∀ ad, ao = some ad → ∀ j u, news[j]? = some u → w.cell? (ad.add j) = some u) (h1 : ∀ u ∈ news, u.oneCell' = true)
    (h63 : n + m ≤ maxLen) (hbytes : (n + m) * bytes ≤ 140737488355328) (hbase : base ≤ w.heap.size)
    (h : ∀ v' w', w'.ownsRow base e size v' (n + m) (xs ++ news) → w.grownBy w' v.ownBlock → (v'.ownBlock = v.ownBlock ∨ ∃ g, v'.ownBlock = some g ∧ w.heap.size ≤ g) → wpList P ops Q rest (a.put o.dst v') w') : wpList P ops Q (o :: rest) a w :=
  wpList_plain hgd fun _ hK => wp_append_row2 w s x t ho base e i z size bytes ht hi hz hsize hby hzs hsz v n xs hs hown ao m c news hx h0 hl hnews h1 h63 hbytes hbase fun v' w' h2 h3 h4 => hK _ _ (h v' w' h2 h3 h4)
theorem step_append_row2 (w : World) {ops : Array Oper} {o : Oper} {a : Act} {K : Act → World → Prop} {Q : Exit → Act → World → Prop} {E : Prop} (hgd : o.guard = none) (s x : Operand) (t : TypeId)
    (ho : o.op = .call { callee := .builtin .append, args := #[s, x], argTypes := #[t, t] })
    (base : Nat) (e : TypeId) (i : TypeInfo) (z : Value) (size bytes : Nat) (ht : P.underlying t = some (.slice e)) (hi : P.info? e = some i) (hz : i.zero = some z)
    (hsize : i.size = size) (hby : i.bytes = bytes) (hzs : z.cells.size = size) (hsz : 0 < size)
    (v : Value) (n : Nat) (xs : List Value) (hs : a.eval s = v) (hown : w.ownsRow base e size v n xs)
    (ao : Option Addr) (m c : Nat) (news : List Value) (hx : a.eval x = .slice ao m c) (h0 : ao = none → m = 0) (hl : news.length = m * size) (hnews : ∀ ad, ao = some ad → ∀ j u, news[j]? = some u → w.cell? (ad.add j) = some u) (h1 : ∀ u ∈ news, u.oneCell' = true)
    (h63 : n + m ≤ maxLen) (hbytes : (n + m) * bytes ≤ 140737488355328) (hbase : base ≤ w.heap.size)
    (h : ∀ v' w', w'.ownsRow base e size v' (n + m) (xs ++ news) → w.grownBy w' v.ownBlock → (v'.ownBlock = v.ownBlock ∨ ∃ g, v'.ownBlock = some g ∧ w.heap.size ≤ g) → K (a.put o.dst v') w') :
    if Region.wanted o (yielded ops a.tmps) = true then Oper.wp P o a w K Q else E := by
  have hw : Region.wanted o (yielded ops a.tmps) = true := by simp [Region.wanted, hgd]
  rw [if_pos hw]
  exact wp_append_row2 w s x t ho base e i z size bytes ht hi hz hsize hby hzs hsz v n xs hs hown ao m c news hx h0 hl hnews h1 h63 hbytes hbase h
end

/-- a source of a row that is owned, as append wants it -/
theorem own_source {w : World} {H : Nat} {v : Value} {l : List Int} (h : w.ownsRow H 3 1 v l.length (rowCells l)) : ∃ ao c, v = .slice ao l.length c ∧ (ao = none → l.length = 0) ∧ ∀ ad, ao = some ad → ∀ j u, (rowCells l)[j]? = some u → w.cell? (ad.add j) = some u := by
  rcases h.2 with ⟨rfl, h0⟩ | ⟨g, cap, cur, rfl, hg, hb, h1, h2, h3, h4⟩
  · exact ⟨none, 0, by rw [h0], fun _ => h0, fun ad e => by cases e⟩
  · refine ⟨_, cap, rfl, fun e => (by cases e), fun ad e j u hu => ?_⟩
    simp only [Option.some.injEq] at e
    subst e
    have hk := blk_own h
    have hj : j < l.length := by have := (List.getElem?_eq_some_iff.1 hu).1; simpa [rowCells] using this
    rw [add_none, Nat.zero_add]
    have := hk.cell (i := j) (by omega)
    rw [this]
    simp [rowCells, hj] at hu
    simp [rowCells, hj, hu]
def ApV (u v : Value) : Prop := ∀ b, u.ownBlock = some b → ¬ v.ownBlock = some b
def ApA (a : Option Addr) (v : Value) : Prop := ∀ b o, a = some ⟨b, o, none⟩ → ¬ v.ownBlock = some b
theorem ApV.symm {u v : Value} (h : ApV u v) : ApV v u := fun b h1 h2 => h b h2 h1
theorem Mk.kept {M : Nat} {w w' : World} {pv lv : Value} {s : MkS} {aa : Option Addr} {an ac : Nat} {p : Nat → Prop} (h : Mk M w pv lv s aa an ac) (hk : KeptP p w w') (hM : ¬ p M) (hl : ∀ b, lv.ownBlock = some b → ¬ p b) (ha : ∀ b o, aa = some ⟨b, o, none⟩ → ¬ p b) : Mk M w' pv lv s aa an ac :=
  ⟨hk.blk h.blk hM, h.len, (arcs_kept h.arc hk (Nat.le_refl _) ha).wide (Nat.le_refl _) hk.size, fun b o e => ⟨(h.off b o e).1, Nat.lt_of_lt_of_le (h.off b o e).2.1 hk.size, (h.off b o e).2.2⟩, owns_keptP h.lab hk hl⟩
theorem kp_trans {p q : Nat → Prop} {w w1 w2 : World} (h : KeptP p w w1) (k : KeptP q w1 w2) (hq : ∀ b, b < w.heap.size → q b → p b) : KeptP p w w2 :=
  ⟨k.os.trans h.os, k.tape.trans h.tape, k.output.trans h.output, Nat.le_trans h.size k.size, fun b hb hn => (k.block b (Nat.lt_of_lt_of_le hb h.size) (fun e => hn (hq b hb e))).trans (h.block b hb hn)⟩
theorem kp_below {B : Nat} {w w1 : World} (h : Below B w w1) : KeptP (fun c => B ≤ c) w w1 := KeptP.of_below h (fun k _ hn => by omega)
theorem kp_grown {r : Option Nat} {w w1 : World} (h : w.grownBy w1 r) : KeptP (fun c => r = some c) w w1 := ⟨h.os, h.tape, h.output, h.size, fun k hk hn => h.block k hk (fun e => hn e.symm)⟩
theorem NewOr.trans {H1 H2 H3 : Nat} {a b c : Option Addr} {K : Nat} (h : NewOr H1 H2 a b) (k : NewOr K H3 b c) (h1 : H1 ≤ K) (h2 : H2 ≤ H3) : NewOr H1 H3 a c := by
  rcases k with k | k
  · rw [k]
    rcases h with h | h
    · exact .inl h
    · exact .inr fun b o e => ⟨(h b o e).1, Nat.lt_of_lt_of_le (h b o e).2 h2⟩
  · exact .inr fun b o e => ⟨Nat.le_trans h1 (k b o e).1, (k b o e).2⟩

/-- between two kids -/
structure Sc (M R : Nat) (w : World) (pv lv0 : Value) (a0 : Option Addr) (xB : Nat → Value) (wr : World) (s : MkS) (o : Lk) (lv : Value) (aa : Option Addr) (an ac : Nat) (fv gv : Value) : Prop where
  mR : M < R
  hR : R = w.heap.size
  l0 : ∀ b, lv0.ownBlock = some b → b < R
  res : Blk wr R 3 (k3 (.slice none 0 0) (.slice none 0 0) (.bool false))
  x : Blk wr (R + 1) 3 xB
  out : Blk wr (R + 2) 3 (k3 fv gv (.bool o.nl))
  mkr : Mk M wr pv lv s aa an ac
  rf : wr.ownsRow (R + 3) 3 1 fv o.fi.length (rowCells o.fi)
  rg : wr.ownsRow (R + 3) 3 1 gv o.la.length (rowCells o.la)
  fg : ApV fv gv
  fl : ApV fv lv
  gl : ApV gv lv
  af : ApA aa fv
  ag : ApA aa gv
  ax : ∀ b o, aa = some ⟨b, o, none⟩ → b < R ∨ R + 3 ≤ b
  kp : KeptP (fun c => c = M ∨ lv0.ownBlock = some c) w wr
  nb : NewB (R + 3) lv0 lv
  na : NewOr w.heap.size wr.heap.size a0 aa
/-- and with a kid's answer -/
structure Sy (M R : Nat) (w : World) (pv lv0 : Value) (a0 : Option Addr) (xB : Nat → Value) (wr : World) (s : MkS) (o : Lk) (lv : Value) (aa : Option Addr) (an ac : Nat) (fv gv : Value) (D : Nat) (y : Lk) (fy gy : Value) : Prop where
  sc : Sc M R w pv lv0 a0 xB wr s o lv aa an ac fv gv
  yb : Blk wr D 3 (k3 fy gy (.bool y.nl))
  yf : wr.ownsRow (R + 3) 3 1 fy y.fi.length (rowCells y.fi)
  yg : wr.ownsRow (R + 3) 3 1 gy y.la.length (rowCells y.la)
  dR : R + 3 ≤ D
  dl : ¬ lv.ownBlock = some D
  df : ¬ fv.ownBlock = some D
  dg : ¬ gv.ownBlock = some D
  da : ∀ b o, aa = some ⟨b, o, none⟩ → b ≠ D
  yy : ApV fy gy
  yl : ApV fy lv
  zl : ApV gy lv
  ya : ApA aa fy
  za : ApA aa gy
  zf : ApV gy fv
  yv : ApV fy fv
section
variable {M R : Nat} {w : World} {pv lv0 : Value} {a0 : Option Addr} {xB : Nat → Value} {wr : World} {s : MkS} {o : Lk} {lv : Value} {aa : Option Addr} {an ac : Nat} {fv gv : Value} {D : Nat} {y : Lk} {fy gy : Value}
theorem Sc.sz (h : Sc M R w pv lv0 a0 xB wr s o lv aa an ac fv gv) : R + 3 ≤ wr.heap.size := h.out.lt
theorem Sc.lvx (h : Sc M R w pv lv0 a0 xB wr s o lv aa an ac fv gv) {b : Nat} (e : lv.ownBlock = some b) : b < R ∨ R + 3 ≤ b := by
  rcases h.nb with h1 | h1
  · rw [h1] at e; exact .inl (h.l0 b e)
  · exact .inr (h1 b e)
/-- blocks change that are none of these -/
theorem Sc.keep {wr' : World} {p : Nat → Prop} (h : Sc M R w pv lv0 a0 xB wr s o lv aa an ac fv gv) (hk : KeptP p wr wr') (hp : ∀ k, p k → R + 3 ≤ k) (hl : ∀ b, lv.ownBlock = some b → ¬ p b) (hf : ∀ b, fv.ownBlock = some b → ¬ p b) (hg : ∀ b, gv.ownBlock = some b → ¬ p b) (ha : ∀ b o, aa = some ⟨b, o, none⟩ → ¬ p b) : Sc M R w pv lv0 a0 xB wr' s o lv aa an ac fv gv :=
  { h with
    res := hk.blk h.res (fun e => by have := hp _ e; omega)
    x := hk.blk h.x (fun e => by have := hp _ e; omega)
    out := hk.blk h.out (fun e => by have := hp _ e; omega)
    mkr := h.mkr.kept hk (fun e => by have := hp _ e; have := h.mR; omega) hl ha
    rf := owns_keptP h.rf hk hf
    rg := owns_keptP h.rg hk hg
    kp := kp_trans h.kp hk (fun b hb e => by have := hp _ e; have := h.hR; omega)
    na := h.na.trans (NewOr.refl _ _ _) (Nat.le_refl _) hk.size }
theorem Sc.below {wr' : World} (h : Sc M R w pv lv0 a0 xB wr s o lv aa an ac fv gv) (hb : Below wr.heap.size wr wr') : Sc M R w pv lv0 a0 xB wr' s o lv aa an ac fv gv :=
  h.keep (kp_below hb) (fun k e => Nat.le_trans h.sz e) (fun b e e2 => by have := (h.mkr.lab.lt b e).2; omega) (fun b e e2 => by have := (h.rf.lt b e).2; omega) (fun b e e2 => by have := (h.rg.lt b e).2; omega) (fun b o e e2 => by have := (h.mkr.off b o e).2.1; omega)
/-- a kid has been looked at -/
theorem Sc.kid {w2 : World} {s1 : MkS} {lv' : Value} {aa' : Option Addr} {an' ac' : Nat} {T : TypeId} (h : Sc M R w pv lv0 a0 xB wr s o lv aa an ac fv gv) (hno : NewOr wr.heap.size w2.heap.size aa aa') (hya : ∀ b o, aa' = some ⟨b, o, none⟩ → ¬ fy.ownBlock = some b ∧ ¬ gy.ownBlock = some b) (hm : Mk M w2 pv lv' s1 aa' an' ac') (hf : Rw wr.heap.size w2 fy lv' y.fi) (hg : Rw wr.heap.size w2 gy lv' y.la) (hyy : ∀ b, fy.ownBlock = some b → ¬ gy.ownBlock = some b) (hk : KeptP (fun c => c = M ∨ lv.ownBlock = some c) wr w2) (hnb : NewB wr.heap.size lv lv') :
    Sy M R w pv lv0 a0 xB (w2.alloc (.cells #[fy, gy, .bool y.nl] T)) s1 o lv' aa' an' ac' fv gv w2.heap.size y fy gy := by
  have hsz := h.sz
  have hMR := h.mR
  have hp : ∀ k, R ≤ k → k < R + 3 → ¬ (k = M ∨ lv.ownBlock = some k) := fun k h1 h2 e => by
    rcases e with e | e
    · omega
    · rcases h.lvx e with h3 | h3 <;> omega
  have hlv' : ∀ b, lv'.ownBlock = some b → lv.ownBlock = some b ∨ wr.heap.size ≤ b := fun b e => by
    rcases hnb with h1 | h1
    · rw [h1] at e; exact .inl e
    · exact .inr (h1 b e)
  have haa' : ∀ b o, aa' = some ⟨b, o, none⟩ → aa = some ⟨b, o, none⟩ ∨ wr.heap.size ≤ b := fun b o e => by
    rcases hno with h1 | h1
    · rw [h1] at e; exact .inl e
    · exact .inr (h1 b o e).1
  have hfl := fun b e => (h.rf.lt b e)
  have hgl := fun b e => (h.rg.lt b e)
  have hsc : Sc M R w pv lv0 a0 xB w2 s1 o lv' aa' an' ac' fv gv :=
    { mR := h.mR
      hR := h.hR
      l0 := h.l0
      res := hk.blk h.res (hp _ (Nat.le_refl _) (by omega))
      x := hk.blk h.x (hp _ (by omega) (by omega))
      out := hk.blk h.out (hp _ (by omega) (by omega))
      mkr := hm
      rf := owns_keptP h.rf hk (fun c e e2 => by rcases e2 with e2 | e2; have := (hfl c e).1; omega; exact h.fl c e e2)
      rg := owns_keptP h.rg hk (fun c e e2 => by rcases e2 with e2 | e2; have := (hgl c e).1; omega; exact h.gl c e e2)
      fg := h.fg
      fl := fun b e e2 => by rcases hlv' b e2 with h1 | h1; exact h.fl b e h1; have := (hfl b e).2; omega
      gl := fun b e e2 => by rcases hlv' b e2 with h1 | h1; exact h.gl b e h1; have := (hgl b e).2; omega
      af := fun b o e e2 => by rcases haa' b o e with h1 | h1; exact h.af b o h1 e2; have := (hfl b e2).2; omega
      ag := fun b o e e2 => by rcases haa' b o e with h1 | h1; exact h.ag b o h1 e2; have := (hgl b e2).2; omega
      ax := fun b o e => by rcases haa' b o e with h1 | h1; exact h.ax b o h1; exact .inr (by omega)
      kp := kp_trans h.kp hk (fun b hb e => by
        rcases e with e | e
        · exact .inl e
        · rcases h.nb with h1 | h1
          · rw [h1] at e; exact .inr e
          · have := h1 b e; have := h.hR; omega)
      nb := by
        rcases hnb with h1 | h1
        · rcases h.nb with h2 | h2
          · exact .inl (h1.trans h2)
          · exact .inr fun b e => h2 b (by rw [← h1]; exact e)
        · exact .inr fun b e => Nat.le_trans hsz (h1 b e)
      na := h.na.trans hno (by have := h.hR; omega) hk.size }
  have hbl : Below w2.heap.size w2 (w2.alloc (.cells #[fy, gy, .bool y.nl] T)) := below1 w2 _
  have hyfl := fun b e => (hf.own.lt b e)
  have hygl := fun b e => (hg.own.lt b e)
  exact
    { sc := hsc.below hbl
      yb := blk_three w2 _ rfl _ _ _ _
      yf := (owns_base hf.own hsz).alloc _
      yg := (owns_base hg.own hsz).alloc _
      dR := hsc.sz
      dl := fun e => by have := (hm.lab.lt _ e).2; omega
      df := fun e => by have := (hsc.rf.lt _ e).2; omega
      dg := fun e => by have := (hsc.rg.lt _ e).2; omega
      da := fun b o e e2 => by have := (hm.off b o e).2.1; omega
      yy := hyy
      yl := hf.off
      zl := hg.off
      ya := fun b o e => (hya b o e).1
      za := fun b o e => (hya b o e).2
      zf := fun b e e2 => by have := (hygl b e).1; have := (hfl b e2).2; omega
      yv := fun b e e2 => by have := (hyfl b e).1; have := (hfl b e2).2; omega }
/-- arcs are joined -/
theorem Sc.join {w2 : World} {s' : MkS} {aa' : Option Addr} {an' ac' : Nat} (h : Sc M R w pv lv0 a0 xB wr s o lv aa an ac fv gv) (hm : Mk M w2 pv lv s' aa' an' ac') (hk : KeptP (fun c => c = M) wr w2) (hno : NewOr wr.heap.size w2.heap.size aa aa') : Sc M R w pv lv0 a0 xB w2 s' o lv aa' an' ac' fv gv := by
  have hsz := h.sz
  have hMR := h.mR
  have haa' : ∀ b o, aa' = some ⟨b, o, none⟩ → aa = some ⟨b, o, none⟩ ∨ wr.heap.size ≤ b := fun b o e => by
    rcases hno with h1 | h1
    · rw [h1] at e; exact .inl e
    · exact .inr (h1 b o e).1
  exact
    { h with
      res := hk.blk h.res (by omega)
      x := hk.blk h.x (by omega)
      out := hk.blk h.out (by omega)
      mkr := hm
      rf := owns_keptP h.rf hk (fun c e e2 => by have := (h.rf.lt c e).1; omega)
      rg := owns_keptP h.rg hk (fun c e e2 => by have := (h.rg.lt c e).1; omega)
      af := fun b o e e2 => by rcases haa' b o e with h1 | h1; exact h.af b o h1 e2; have := (h.rf.lt b e2).2; omega
      ag := fun b o e e2 => by rcases haa' b o e with h1 | h1; exact h.ag b o h1 e2; have := (h.rg.lt b e2).2; omega
      ax := fun b o e => by rcases haa' b o e with h1 | h1; exact h.ax b o h1; exact .inr (by omega)
      kp := kp_trans h.kp hk (fun b _ e => .inl e)
      na := h.na.trans hno (by have := h.hR; omega) hk.size }
theorem Sy.join {w2 : World} {s' : MkS} {aa' : Option Addr} {an' ac' : Nat} (h : Sy M R w pv lv0 a0 xB wr s o lv aa an ac fv gv D y fy gy) (hm : Mk M w2 pv lv s' aa' an' ac') (hk : KeptP (fun c => c = M) wr w2) (hno : NewOr wr.heap.size w2.heap.size aa aa') : Sy M R w pv lv0 a0 xB w2 s' o lv aa' an' ac' fv gv D y fy gy := by
  have hMR := h.sc.mR
  have hDR := h.dR
  have hDl := h.yb.lt
  have haa' : ∀ b o, aa' = some ⟨b, o, none⟩ → aa = some ⟨b, o, none⟩ ∨ wr.heap.size ≤ b := fun b o e => by
    rcases hno with h1 | h1
    · rw [h1] at e; exact .inl e
    · exact .inr (h1 b o e).1
  exact
    { h with
      sc := h.sc.join hm hk hno
      yb := hk.blk h.yb (by omega)
      yf := owns_keptP h.yf hk (fun c e e2 => by have := (h.yf.lt c e).1; omega)
      yg := owns_keptP h.yg hk (fun c e e2 => by have := (h.yg.lt c e).1; omega)
      da := fun b o e => by rcases haa' b o e with h1 | h1; exact h.da b o h1; omega
      ya := fun b o e e2 => by rcases haa' b o e with h1 | h1; exact h.ya b o h1 e2; have := (h.yf.lt b e2).2; omega
      za := fun b o e e2 => by rcases haa' b o e with h1 | h1; exact h.za b o h1 e2; have := (h.yg.lt b e2).2; omega }
/-- the first states have grown -/
theorem Sy.first {w2 : World} {v' : Value} {l : List Int} (h : Sy M R w pv lv0 a0 xB wr s o lv aa an ac fv gv D y fy gy) (hg : wr.grownBy w2 fv.ownBlock) (ho : w2.ownsRow (R + 3) 3 1 v' l.length (rowCells l)) (hl : v'.ownBlock = fv.ownBlock ∨ ∃ g, v'.ownBlock = some g ∧ wr.heap.size ≤ g) :
    Sy M R w pv lv0 a0 xB (w2.setCell ⟨R + 2, 0, none⟩ v') s ⟨l, o.la, o.nl⟩ lv aa an ac v' gv D y fy gy := by
  have hsz := h.sc.sz
  have hMR := h.sc.mR
  have hDR := h.dR
  have hDl := h.yb.lt
  have hk := (kp_grown hg).mono (p' := fun c => fv.ownBlock = some c ∨ c = R + 2) (fun _ e => .inl e)
  have hk2 : KeptP (fun c => fv.ownBlock = some c ∨ c = R + 2) wr (w2.setCell ⟨R + 2, 0, none⟩ v') := hk.setCell (.inr rfl) _
  have hfl := fun b e => (h.sc.rf.lt b e)
  have hv : ∀ b, v'.ownBlock = some b → fv.ownBlock = some b ∨ wr.heap.size ≤ b := fun b e => by
    rcases hl with h1 | ⟨g, h1, h2⟩
    · rw [h1] at e; exact .inl e
    · rw [h1] at e; simp at e; subst e; exact .inr h2
  have hno : ∀ k, k < R + 3 → k ≠ R + 2 → ¬ (fv.ownBlock = some k ∨ k = R + 2) := fun k h1 h2 e => by
    rcases e with e | e
    · have := (hfl k e).1; omega
    · exact h2 e
  have hO2 : Blk w2 (R + 2) 3 (k3 fv gv (.bool o.nl)) := (kp_grown hg).blk h.sc.out (fun e => by have := (hfl _ e).1; omega)
  exact
    { sc :=
      { h.sc with
        res := hk2.blk h.sc.res (hno _ (by omega) (by omega))
        x := hk2.blk h.sc.x (hno _ (by omega) (by omega))
        out := (hO2.set 0 (by omega) v').congr fun i hi => by rcases (show i = 0 ∨ i = 1 ∨ i = 2 by omega) with e | e | e <;> subst e <;> rfl
        mkr := h.sc.mkr.kept hk2 (hno _ (by omega) (by omega)) (fun b e e2 => by
            rcases e2 with e2 | e2
            · exact h.sc.fl b e2 e
            · rcases h.sc.lvx e with h3 | h3 <;> omega) (fun b o e e2 => by
            rcases e2 with e2 | e2
            · exact h.sc.af b o e e2
            · rcases h.sc.ax b o e with h3 | h3 <;> omega)
        rf := owns_set ho (by omega)
        rg := owns_keptP h.sc.rg hk2 (fun c e e2 => by
          rcases e2 with e2 | e2
          · exact h.sc.fg c e2 e
          · have := (h.sc.rg.lt c e).1; omega)
        fg := fun b e e2 => by rcases hv b e with h1 | h1; exact h.sc.fg b h1 e2; have := (h.sc.rg.lt b e2).2; omega
        fl := fun b e e2 => by rcases hv b e with h1 | h1; exact h.sc.fl b h1 e2; have := (h.sc.mkr.lab.lt b e2).2; omega
        af := fun b o e e2 => by rcases hv b e2 with h1 | h1; exact h.sc.af b o e h1; have := (h.sc.mkr.off b o e).2.1; omega
        kp := kp_trans h.sc.kp hk2 (fun b hb e => by
          have := h.sc.hR
          rcases e with e | e
          · have := (hfl b e).1; omega
          · omega)
        na := h.sc.na.trans (NewOr.refl _ _ _) (Nat.le_refl _) hk2.size }
      yb := hk2.blk h.yb (fun e => by rcases e with e | e; exact h.df e; omega)
      yf := owns_keptP h.yf hk2 (fun c e e2 => by
          rcases e2 with e2 | e2
          · exact h.yv c e e2
          · have := (h.yf.lt c e).1; omega)
      yg := owns_keptP h.yg hk2 (fun c e e2 => by
          rcases e2 with e2 | e2
          · exact h.zf c e e2
          · have := (h.yg.lt c e).1; omega)
      dR := h.dR
      dl := h.dl
      df := fun e => by rcases hv D e with h1 | h1; exact h.df h1; omega
      dg := h.dg
      da := h.da
      yy := h.yy
      yl := h.yl
      zl := h.zl
      ya := h.ya
      za := h.za
      zf := fun b e e2 => by rcases hv b e2 with h1 | h1; exact h.zf b e h1; have := (h.yg.lt b e).2; omega
      yv := fun b e e2 => by rcases hv b e2 with h1 | h1; exact h.yv b e h1; have := (h.yf.lt b e).2; omega }
/-- the last states are others: a row that has grown out of them, or a new one -/
theorem Sc.last {w2 : World} {v' : Value} {l : List Int} {p : Nat → Prop} (h : Sc M R w pv lv0 a0 xB wr s o lv aa an ac fv gv) (hk : KeptP p wr w2) (hp : ∀ k, p k → gv.ownBlock = some k ∨ wr.heap.size ≤ k) (ho : w2.ownsRow (R + 3) 3 1 v' l.length (rowCells l)) (hvf : ApV fv v') (hvl : ApV v' lv) (hva : ApA aa v') :
    Sc M R w pv lv0 a0 xB (w2.setCell ⟨R + 2, 1, none⟩ v') s ⟨o.fi, l, o.nl⟩ lv aa an ac fv v' := by
  have hsz := h.sz
  have hMR := h.mR
  have hgl := fun b e => (h.rg.lt b e)
  have hk1 := hk.mono (p' := fun c => p c ∨ c = R + 2) (fun _ e => .inl e)
  have hk2 : KeptP (fun c => p c ∨ c = R + 2) wr (w2.setCell ⟨R + 2, 1, none⟩ v') := hk1.setCell (.inr rfl) _
  have hpx : ∀ k, p k → R + 3 ≤ k := fun k e => by
    rcases hp k e with h1 | h1
    · exact (hgl k h1).1
    · omega
  have hno : ∀ k, k < R + 3 → k ≠ R + 2 → ¬ (p k ∨ k = R + 2) := fun k h1 h2 e => by
    rcases e with e | e
    · have := hpx k e; omega
    · exact h2 e
  have hO2 : Blk w2 (R + 2) 3 (k3 fv gv (.bool o.nl)) := hk.blk h.out (fun e => by have := hpx _ e; omega)
  exact
    { h with
      res := hk2.blk h.res (hno _ (by omega) (by omega))
      x := hk2.blk h.x (hno _ (by omega) (by omega))
      out := (hO2.set 1 (by omega) v').congr fun i hi => by rcases (show i = 0 ∨ i = 1 ∨ i = 2 by omega) with e | e | e <;> subst e <;> rfl
      mkr := h.mkr.kept hk2 (hno _ (by omega) (by omega)) (fun b e e2 => by
          rcases e2 with e2 | e2
          · rcases hp b e2 with h1 | h1
            · exact h.gl b h1 e
            · have := (h.mkr.lab.lt b e).2; omega
          · rcases h.lvx e with h3 | h3 <;> omega) (fun b o e e2 => by
          rcases e2 with e2 | e2
          · rcases hp b e2 with h1 | h1
            · exact h.ag b o e h1
            · have := (h.mkr.off b o e).2.1; omega
          · rcases h.ax b o e with h3 | h3 <;> omega)
      rf := owns_keptP h.rf hk2 (fun c e e2 => by
        rcases e2 with e2 | e2
        · rcases hp c e2 with h1 | h1
          · exact h.fg c e h1
          · have := (h.rf.lt c e).2; omega
        · have := (h.rf.lt c e).1; omega)
      rg := owns_set ho (by omega)
      fg := hvf
      gl := hvl
      ag := hva
      kp := kp_trans h.kp hk2 (fun b hb e => by
        have := h.hR
        rcases e with e | e
        · have := hpx b e; omega
        · omega)
      na := h.na.trans (NewOr.refl _ _ _) (Nat.le_refl _) hk2.size }
/-- whether it may be nothing -/
theorem Sc.null (h : Sc M R w pv lv0 a0 xB wr s o lv aa an ac fv gv) (q : Bool) : Sc M R w pv lv0 a0 xB (wr.setCell ⟨R + 2, 2, none⟩ (.bool q)) s ⟨o.fi, o.la, q⟩ lv aa an ac fv gv := by
  have hsz := h.sz
  have hMR := h.mR
  have hk : KeptP (fun c => c = R + 2) wr (wr.setCell ⟨R + 2, 2, none⟩ (.bool q)) := kp_set _ _ _ _
  exact
    { h with
      res := hk.blk h.res (by omega)
      x := hk.blk h.x (by omega)
      out := (h.out.set 2 (by omega) (.bool q)).congr fun i hi => by rcases (show i = 0 ∨ i = 1 ∨ i = 2 by omega) with e | e | e <;> subst e <;> rfl
      mkr := h.mkr.kept hk (by omega) (fun b e e2 => by rcases h.lvx e with h3 | h3 <;> omega) (fun b o e e2 => by rcases h.ax b o e with h3 | h3 <;> omega)
      rf := owns_keptP h.rf hk (fun c e e2 => by have := (h.rf.lt c e).1; omega)
      rg := owns_keptP h.rg hk (fun c e e2 => by have := (h.rg.lt c e).1; omega)
      kp := kp_trans h.kp hk (fun b hb e => by have := h.hR; omega)
      na := h.na.trans (NewOr.refl _ _ _) (Nat.le_refl _) hk.size }
/-- the kid's answer is the piece's own -/
theorem Sy.take (h : Sy M R w pv lv0 a0 xB wr s o lv aa an ac fv gv D y fy gy) : Sc M R w pv lv0 a0 xB (wr.setCells (R + 2) 0 [fy, gy, .bool y.nl]) s y lv aa an ac fy gy ∧ Blk (wr.setCells (R + 2) 0 [fy, gy, .bool y.nl]) D 3 (k3 fy gy (.bool y.nl)) := by
  have hsz := h.sc.sz
  have hMR := h.sc.mR
  have hDR := h.dR
  have hk : KeptP (fun c => c = R + 2) wr (wr.setCells (R + 2) 0 [fy, gy, .bool y.nl]) := kp_set3 _ _ _ _ _
  refine ⟨?_, hk.blk h.yb (by omega)⟩
  exact
    { h.sc with
      res := hk.blk h.sc.res (by omega)
      x := hk.blk h.sc.x (by omega)
      out := k3_put h.sc.out _ _ _
      mkr := h.sc.mkr.kept hk (by omega) (fun b e e2 => by rcases h.sc.lvx e with h3 | h3 <;> omega) (fun b o e e2 => by rcases h.sc.ax b o e with h3 | h3 <;> omega)
      rf := owns_keptP h.yf hk (fun c e e2 => by have := (h.yf.lt c e).1; omega)
      rg := owns_keptP h.yg hk (fun c e e2 => by have := (h.yg.lt c e).1; omega)
      fg := h.yy
      fl := h.yl
      gl := h.zl
      af := h.ya
      ag := h.za
      kp := kp_trans h.sc.kp hk (fun b hb e => by have := h.sc.hR; omega)
      na := h.sc.na.trans (NewOr.refl _ _ _) (Nat.le_refl _) hk.size }
/-- at the end -/
theorem Sc.fin (h : Sc M R w pv lv0 a0 xB wr s o lv aa an ac fv gv) : LookPost M w pv lv0 a0 (s, o) (.returned (.agg #[fv, gv, .bool o.nl])) (wr.setCells R 0 [fv, gv, .bool o.nl]) := by
  have hsz := h.sz
  have hMR := h.mR
  have hR := h.hR
  have hk : KeptP (fun c => c = R) wr (wr.setCells R 0 [fv, gv, .bool o.nl]) := kp_set3 _ _ _ _ _
  refine ⟨lv, aa, an, ac, fv, gv, rfl, h.na.trans (NewOr.refl _ _ _) (Nat.le_refl _) hk.size, fun b o e => ⟨h.af b o e, h.ag b o e⟩, h.mkr.kept hk (by omega) (fun b e e2 => by rcases h.lvx e with h3 | h3 <;> omega) (fun b o e e2 => by rcases h.ax b o e with h3 | h3 <;> omega), ⟨owns_base (owns_keptP h.rf hk (fun c e e2 => by have := (h.rf.lt c e).1; omega)) (by omega), h.fl⟩, ⟨owns_base (owns_keptP h.rg hk (fun c e e2 => by have := (h.rg.lt c e).1; omega)) (by omega), h.gl⟩, h.fg, kp_trans h.kp hk (fun b hb e => by omega), ?_⟩
  rcases h.nb with h1 | h1
  · exact .inl h1
  · exact .inr fun b e => by have := h1 b e; omega
end
/-- join over the maker in memory, and where its arcs lie then -/
theorem join_mk2 (M H : Nat) (pv lv : Value) (s : MkS) (aa : Option Addr) (an ac : Nat) (fv gv : Value) (fs ts : List Int) (w : World) (hm : Mk M w pv lv s aa an ac) (hs : MkOk s) (hH : M < H) (hf : w.ownsRow H 3 1 fv fs.length (rowCells fs)) (hg : w.ownsRow H 3 1 gv ts.length (rowCells ts)) (hts : ∀ x, x ∈ ts → ∃ t : Nat, 1 ≤ t ∧ t ≤ s.lb.length ∧ x = (t : Int)) (hfl : fs.length ≤ 24) (htl : ts.length ≤ 24) :
    Calls Try.prog 35 #[.pointer (some ⟨M, 0, none⟩), fv, gv] w fun e w' => ∃ aa' an' ac', e = .returned (.tuple #[]) ∧ Hid (Mk M w' pv lv { s with ar := joinF s.lb fs ts s.ar } aa' an' ac') ∧ Hid (KeptP (fun c => c = M) w w') ∧ Hid (NewOr w.heap.size w'.heap.size aa aa') := by
  obtain ⟨fa, fc, rfl, hfi⟩ := own_rowIn (M := M + 1) hf (by omega)
  obtain ⟨ga, gc, rfl, hgi⟩ := own_rowIn (M := M + 1) hg (by omega)
  obtain ⟨la, lc, rfl, _⟩ := own_shape hm.lab
  have hm2 : fs.length * ts.length ≤ 24 * 24 := Nat.mul_le_mul hfl htl
  have h := join_any M pv la s.lb.length lc (M + 1) w.heap.size s.lb aa an ac s.ar s.bad fa fs.length fc fs ga ts.length gc ts w hm.blk (lab_in hm.lab) (by omega) (Nat.le_refl _) rfl hs.len hm.arc hm.len hfi rfl hgi rfl hts (by have := hs.few; have := hm.len; omega) (by omega) (by omega)
  refine h.mono ?_
  rintro e w' ⟨rfl, aa', an', ac', HB, HL, HE, HK, HNO⟩
  refine ⟨aa', an', ac', rfl, ⟨HB.out, HL.out, HE.out, fun b o e => ?_, owns_keptP hm.lab HK.out (fun c h e => ?_)⟩, HK, HNO⟩
  · rcases HNO.out with h | h
    · rw [h] at e
      have h3 := hm.off b o e
      exact ⟨h3.1, Nat.lt_of_lt_of_le h3.2.1 HK.out.size, h3.2.2⟩
    · have h3 := h b o e
      have h4 := hm.blk.lt
      exact ⟨by omega, h3.2, fun h5 => by have h6 := (hm.lab.lt b h5).2; omega⟩
  · have h1 := (hm.lab.lt c h).1
    have h2 : c = M := e
    omega
end Go.Proofs.Ytkcflhlipdnbnaa

/-
  (*spec.l07Make).look at a piece that has kids.
-/
namespace Go.Proofs.Ytkcflhlipdnbnaa
open Go.RowKit

/-- the loop's invariant -/
def LI (M R : Nat) (w : World) (pv lv0 : Value) (a0 : Option Addr) (xB : Nat → Value) (lk : Nat → MkS → MkS × Lk) (op : Int) (ks : List Int) (lo : Nat) (r : MkS × Lk) (k : Nat) (wr : World) : Prop :=
  ∃ (s : MkS) (o : Lk) (lv : Value) (aa : Option Addr) (an ac : Nat) (fv gv : Value), Hid (Sc M R w pv lv0 a0 xB wr s o lv aa an ac fv gv) ∧ Hid (MkOk s) ∧ Hid (lo ≤ s.lb.length ∧ Sts lo s.lb.length o.fi ∧ Sts lo s.lb.length o.la) ∧ Hid (kidsK lk op (ks.drop k) s o = r)
theorem kidsK_next {lk : Nat → MkS → MkS × Lk} {op : Int} {ks : List Int} {k : Nat} {s : MkS} {o : Lk} {r : MkS × Lk} (h : kidsK lk op (ks.drop k) s o = r) (hk : k < ks.length) (hb : s.bad = false) : kidsK lk op (ks.drop (k + 1)) (stepK op (lk (ks.getD k 0).toNat s).1 o (lk (ks.getD k 0).toNat s).2).1 (stepK op (lk (ks.getD k 0).toNat s).1 o (lk (ks.getD k 0).toNat s).2).2 = r := by
  rw [← h, List.drop_eq_getElem_cons hk]
  conv => rhs; unfold kidsK
  rw [if_neg (by rw [hb]; simp)]
  simp [List.getD, hk]
theorem kidsK_end {lk : Nat → MkS → MkS × Lk} {op : Int} {ks : List Int} {k : Nat} {s : MkS} {o : Lk} {r : MkS × Lk} (h : kidsK lk op (ks.drop k) s o = r) (hk : ks.length ≤ k ∨ s.bad = true) : r = (s, o) := by
  rcases hk with hk | hk
  · rw [← h, List.drop_eq_nil_of_le hk]; rfl
  · rw [← h]
    cases ks.drop k with
    | nil => rfl
    | cons z zs => unfold kidsK; rw [if_pos hk]
theorem rowCells_appW (l k : List Int) : rowCells (l ++ k) = rowCells l ++ rowCells k := by simp [rowCells]
theorem own_app {w : World} {H : Nat} {v : Value} {l k : List Int} (h : w.ownsRow H 3 1 v (l.length + k.length) (rowCells l ++ rowCells k)) : w.ownsRow H 3 1 v (l ++ k).length (rowCells (l ++ k)) := by
  rw [List.length_append, rowCells_appW]; exact h
theorem Sts.le24 {lo hi : Nat} {l : List Int} (h : Sts lo hi l) (hh : hi ≤ 24) : l.length ≤ 24 := by have := h.1; omega

theorem Hid_mk {p : Prop} (h : p) : Hid p := h
theorem own_src {w : World} {H n c : Nat} {a : Option Addr} {l : List Int} (h : w.ownsRow H 3 1 (.slice a n c) l.length (rowCells l)) : (a = none → l.length = 0) ∧ ∀ ad, a = some ad → ∀ j u, (rowCells l)[j]? = some u → w.cell? (ad.add j) = some u := by
  obtain ⟨ao, c', e, h1, h2⟩ := own_source h
  cases e
  exact ⟨h1, h2⟩
section
variable {M R : Nat} {w : World} {pv lv0 : Value} {a0 : Option Addr} {xB : Nat → Value} {wr : World} {s : MkS} {o : Lk} {lv : Value} {aa : Option Addr} {an ac : Nat} {fv gv : Value} {D : Nat} {y : Lk} {fy gy : Value}
theorem Sy.belowY {wr' : World} (h : Sy M R w pv lv0 a0 xB wr s o lv aa an ac fv gv D y fy gy) (hb : Below wr.heap.size wr wr') : Sy M R w pv lv0 a0 xB wr' s o lv aa an ac fv gv D y fy gy :=
  { h with
    sc := h.sc.below hb
    yb := h.yb.of_block (hb.block _ h.yb.lt)
    yf := owns_keptP h.yf (kp_below hb) (fun c e e2 => by have := (h.yf.lt c e).2; omega)
    yg := owns_keptP h.yg (kp_below hb) (fun c e e2 => by have := (h.yg.lt c e).2; omega) }
end
end Go.Proofs.Ytkcflhlipdnbnaa

/-
  The seating in memory; (*impl.seating).follow.
-/
namespace Go.Proofs.Ytkcflhlipdnbnaa
open Go.RowKit

/-- the seating's cells: the shapes, the labels, which states may stand behind which -/
def sgF (sh lv : Value) (bh : Nat → Nat → Bool) : Nat → Value := fun i => if i = 0 then sh else if i = 1 then lv else .bool (bh ((i - 2) / 24) ((i - 2) % 24))
theorem sg_row {w : World} {b : Nat} {sh lv : Value} {bh : Nat → Nat → Bool} (h : Blk w b 578 (sgF sh lv bh)) {a : Nat} (ha : a < 24) : w.rangeAt b (2 + a * 24) (bcells 24 (bh a)) := by
  intro j v hv
  have hj : j < 24 := by have := (List.getElem?_eq_some_iff.1 hv).1; rwa [bcells_len] at this
  simp [bcells, hj] at hv
  subst hv
  rw [h.cell (i := 2 + a * 24 + j) (by omega)]
  unfold sgF
  rw [if_neg (by omega), if_neg (by omega), show (2 + a * 24 + j - 2) / 24 = a by omega, show (2 + a * 24 + j - 2) % 24 = j by omega]
theorem sg_there {w : World} {b : Nat} {sh lv : Value} {bh : Nat → Nat → Bool} (h : Blk w b 578 (sgF sh lv bh)) {a : Nat} (ha : a < 24) : w.there b (2 + a * 24) 24 := fun j hj =>
  ⟨by rw [h.cell (i := 2 + a * 24 + j) (by omega)]; rfl, h.frozen _⟩
theorem sg_put {w : World} {b : Nat} {sh lv : Value} {bh : Nat → Nat → Bool} (h : Blk w b 578 (sgF sh lv bh)) {a : Nat} (ha : a < 24) (g : Nat → Bool) : Blk (w.setCells b (2 + a * 24) (bcells 24 g)) b 578 (sgF sh lv fun x => if x = a then g else bh x) := by
  refine (Blk.setRange (bcells 24 g) (2 + a * 24) h (by rw [bcells_len]; omega)).congr fun i hi => ?_
  rw [bcells_len]
  unfold sgF
  dsimp only
  by_cases e : 2 + a * 24 ≤ i ∧ i < 2 + a * 24 + 24
  · rw [if_pos e, if_neg (by omega), if_neg (by omega), if_pos (show (i - 2) / 24 = a by omega), show (i - 2) % 24 = i - (2 + a * 24) by omega]
    have : i - (2 + a * 24) < 24 := by omega
    simp [bcells, List.getD, this]
  · rw [if_neg e]
    by_cases e0 : i = 0
    · rw [if_pos e0, if_pos e0]
    · by_cases e1 : i = 1
      · rw [if_neg e0, if_pos e1, if_neg e0, if_pos e1]
      · rw [if_neg e0, if_neg e1, if_neg e0, if_neg e1, if_neg (show ¬ (i - 2) / 24 = a by omega)]
theorem sg_lab {w : World} {b : Nat} {sh lv : Value} {bh : Nat → Nat → Bool} (h : Blk w b 578 (sgF sh lv bh)) (u : Value) : Blk (w.setCell ⟨b, 1, none⟩ u) b 578 (sgF sh u bh) :=
  (h.set 1 (by omega) u).congr fun i hi => by
    unfold sgF
    by_cases e0 : i = 0
    · subst e0; rfl
    · by_cases e1 : i = 1
      · subst e1; rfl
      · rw [if_neg e1, if_neg e0, if_neg e1, if_neg e0, if_neg e1]
theorem sg_congr {w : World} {b : Nat} {sh lv : Value} {bh bh' : Nat → Nat → Bool} (h : Blk w b 578 (sgF sh lv bh)) (e : ∀ x y, x < 24 → y < 24 → bh x y = bh' x y) : Blk w b 578 (sgF sh lv bh') :=
  h.congr fun i hi => by
    unfold sgF
    by_cases e0 : i = 0
    · rw [if_pos e0, if_pos e0]
    · by_cases e1 : i = 1
      · rw [if_neg e0, if_neg e0, if_pos e1, if_pos e1]
      · rw [if_neg e0, if_neg e0, if_neg e1, if_neg e1, e _ _ (by omega) (by omega)]
theorem wp_load_midC {P : Program} {ops : Array Oper} {op : Oper} {a : Act} {w : World} {K : Act → World → Prop} {Q : Exit → Act → World → Prop} {E : Prop} (hw : Region.wanted op (yielded ops a.tmps) = true) (ty : TypeId) (x : Operand) (ho : op.op = .load ty x)
    (b o : Nat) (hx : a.eval x = .pointer (some ⟨b, o, none⟩)) (cs : List Value) (d : TypeDesc) (hc : w.rangeAt b o cs)
    (hu : P.underlying ty = some d) (hd : d.isRow = true) (hi : (P.info? ty).map (·.size) = some cs.length)
    (h : K (a.put op.dst (.agg cs.toArray)) w) : if Region.wanted op (yielded ops a.tmps) = true then Oper.wp P op a w K Q else E := by
  rw [if_pos hw]
  exact wp_load_mid ty x ho b o hx cs d hc hu hd hi h

set_option maxHeartbeats 2000000 in
set_option maxRecDepth 100000 in
theorem follow_any (M : Nat) (sh lv : Value) (bh : Nat → Nat → Bool) (f g : Nat → Bool) (w : World) (hm : Blk w M 578 (sgF sh lv bh)) :
    Calls Try.prog 98 #[.pointer (some ⟨M, 0, none⟩), sv f, sv g] w fun e w' => e = .returned (.tuple #[]) ∧ Hid (Blk w' M 578 (sgF sh lv (followB bh f g))) ∧ Hid (KeptP (fun c => c = M) w w') := by
  obtain ⟨cf, HCF⟩ : ∃ cf, Hid (cf = (bcells 24 f).toArray) := ⟨_, rfl⟩
  obtain ⟨cg, HCG⟩ : ∃ cf, Hid (cf = (bcells 24 g).toArray) := ⟨_, rfl⟩
  have hf : cf.size = 24 := by rw [HCF.out]; simp [bcells]
  have hg : cg.size = 24 := by rw [HCG.out]; simp [bcells]
  unfold sv
  rw [← HCF.out, ← HCG.out]
  obtain ⟨B, HB⟩ : ∃ B, Hid (B = w.heap.size) := ⟨_, rfl⟩
  obtain ⟨W, HW⟩ : ∃ W, Hid (W = (w.alloc (.cells cf 80)).alloc (.cells cg 80)) := ⟨_, rfl⟩
  have HBW : Hid (Below w.heap.size w W) := by rw [HW.out]; exact below2 w _ _
  have HSW : Hid (W.heap.size = B + 2) := by rw [HW.out, HB.out]; show _ = _; simp
  have HX : Hid (BBlk W B 24 f) := by rw [HW.out, HCF.out]; exact Blk.alloc (BBlk.new w B HB.out 24 f _) _
  have HY : Hid (BBlk W (B + 1) 24 g) := by rw [HW.out, HCG.out]; exact BBlk.new _ (B + 1) (by rw [HB.out]; simp) 24 g _
  have HMB : Hid (M < B) := by rw [HB.out]; exact hm.lt
  have HMW : Hid (Blk W M 578 (sgF sh lv bh)) := hm.of_block (HBW.out.block _ hm.lt)
  clear hm
  go_enter Try.func98, Try.ntmps98
  go_upto_region 1 with fail
  rw [← HB.out]
  first | rw [← HW.out] | (rw [show _ = W from HW.out.symm])
  clear HW
  go_wp2_with (with_reducible refine wpList_here' ?_; refine wpList_load_mid rfl 80 _ rfl B 0 rfl (bcells 24 f) _ HX.out.all Try.underlying80 rfl (by rw [bcells_len]; exact info_set) ?_)
  rw [← HCF.out]
  go_loopw [9] (fun i wr => ∃ k : Nat, i = .int .i64 k ∧ k ≤ 24 ∧ Hid (Blk wr M 578 (sgF sh lv fun x => if x < k then (fun y => bh x y || (f x && g y)) else bh x)) ∧ Hid (KeptP (fun c => c = M) W wr)) (fun i _ => 24 - (intOf i).toNat)
  case atStart => exact ⟨0, rfl, by omega, sg_congr HMW.out (fun x y _ _ => by simp), KeptP.refl _ _⟩
  case round =>
    obtain ⟨k, rfl, hk, HMR, HL⟩ := hrel
    by_cases hlt : k < 24
    · have hlt1 : (k : Int) < 24 := by omega
      have hlt0 : (0 : Int) ≤ (k : Int) := by omega
      obtain ⟨y, HYY⟩ : ∃ y, Hid (y = f k) := ⟨_, rfl⟩
      have hix : ∀ w, (Instr.index 80 (.agg cf) (.int .i64 (k : Int))).run Try.prog w = .ok (.bool y) w := fun w => by rw [HCF.out, HYY.out]; exact index_set f hlt w
      have HROW : Hid (wr.rangeAt M (2 + k * 24) (bcells 24 (bh k))) := by have h := sg_row HMR.out hlt; rw [if_neg (by omega)] at h; exact h
      rcases Bool.eq_false_or_eq_true y with hy | hy
      · subst hy
        have HYR : Hid (BBlk wr (B + 1) 24 g) := HL.out.blk HY.out (by have := HMB.out; omega)
        go_upto_region 5 with fail
        clear hix
        obtain ⟨V, HV⟩ : ∃ V, Hid (V = wr.drew) := ⟨_, rfl⟩
        have HBV : Hid (Below wr.heap.size wr V) := by rw [HV.out]; exact (Below.refl _ _).drew
        have HMV : Hid (Blk V M 578 (sgF sh lv fun x => if x < k then (fun y => bh x y || (f x && g y)) else bh x)) := HMR.out.of_block (HBV.out.block _ HMR.out.lt)
        have HRV : Hid (V.rangeAt M (2 + k * 24) (bcells 24 (bh k))) := by have h := sg_row HMV.out hlt; rw [if_neg (by omega)] at h; exact h
        have HYV : Hid (V.rangeAt (B + 1) 0 (bcells 24 g)) := (HYR.out.of (HBV.out.block _ HYR.out.lt)).all
        refine wp_region_held_drew (S := fun _ => True) (by kernel_rfl) trivial (fun hHeld => ?_)
        rw [← HV.out]
        refine wpAnyH_take (i := 0) (oi := { dst := some 14, op := Go.Op.move (Go.Operand.tmp 0), type := 134, pos := "l07_nfa.go:251", after := #[], guard := none }) (v := ?_) rfl (by kernel_rfl) (by kernel_rfl) (by kernel_rfl) (fun _ _ _ h => h) (Or.inl ⟨by kernel_rfl, ?_⟩) (by assumption) ?_
        rotate_left
        · intro w hSw; (try dsimp only at hSw); go_simp; try with_reducible rfl
        simp only [Act.put, List.setIfInBounds_toArray, List.set_cons_zero, List.set_cons_succ]
        refine wpAnyH_take (i := 1) (oi := { dst := some 15, op := Go.Op.move (Go.Operand.tmp 6), type := 3, pos := "l07_nfa.go:251", after := #[], guard := none }) (v := ?_) rfl (by kernel_rfl) (by kernel_rfl) (by kernel_rfl) (fun _ _ _ h => h) (Or.inl ⟨by kernel_rfl, ?_⟩) (by assumption) ?_
        rotate_left
        · intro w hSw; (try dsimp only at hSw); go_simp; try with_reducible rfl
        simp only [Act.put, List.setIfInBounds_toArray, List.set_cons_zero, List.set_cons_succ]
        refine wpAnyH_take (i := 2) (oi := { dst := some 16, op := Go.Op.move (Go.Operand.tmp 0), type := 134, pos := "l07_nfa.go:251", after := #[], guard := none }) (v := ?_) rfl (by kernel_rfl) (by kernel_rfl) (by kernel_rfl) (fun _ _ _ h => h) (Or.inl ⟨by kernel_rfl, ?_⟩) (by assumption) ?_
        rotate_left
        · intro w hSw; (try dsimp only at hSw); go_simp; try with_reducible rfl
        simp only [Act.put, List.setIfInBounds_toArray, List.set_cons_zero, List.set_cons_succ]
        refine wpAnyH_take (i := 3) (oi := { dst := some 17, op := Go.Op.move (Go.Operand.tmp 6), type := 3, pos := "l07_nfa.go:251", after := #[], guard := none }) (v := ?_) rfl (by kernel_rfl) (by kernel_rfl) (by kernel_rfl) (fun _ _ _ h => h) (Or.inl ⟨by kernel_rfl, ?_⟩) (by assumption) ?_
        rotate_left
        · intro w hSw; (try dsimp only at hSw); go_simp; try with_reducible rfl
        simp only [Act.put, List.setIfInBounds_toArray, List.set_cons_zero, List.set_cons_succ]
        refine wpAnyH_take (i := 4) (oi := { dst := some 18, op := Go.Op.nilCheck (Go.Operand.tmp 16), type := 0, pos := "l07_nfa.go:251", after := #[{ on := 2, ground := Go.Ground.data }], guard := none }) (v := ?_) rfl (by kernel_rfl) (by kernel_rfl) (by kernel_rfl) (fun _ _ _ h => h) (Or.inl ⟨by kernel_rfl, ?_⟩) (by assumption) ?_
        rotate_left
        · intro w hSw; (try dsimp only at hSw); go_simp; try with_reducible rfl
        simp only [Act.put, List.setIfInBounds_toArray, List.set_cons_zero, List.set_cons_succ]
        refine wpAnyH_take (i := 5) (oi := { dst := some 19, op := Go.Op.fieldAddr 83 (Go.Operand.tmp 18) 2, type := 0, pos := "l07_nfa.go:251", after := #[{ on := 4, ground := Go.Ground.data }], guard := none }) (v := ?_) rfl (by kernel_rfl) (by kernel_rfl) (by kernel_rfl) (fun _ _ _ h => h) (Or.inl ⟨by kernel_rfl, ?_⟩) (by assumption) ?_
        rotate_left
        · intro w hSw; (try dsimp only at hSw); go_simp; try with_reducible rfl
        simp only [Act.put, List.setIfInBounds_toArray, List.set_cons_zero, List.set_cons_succ]
        refine wpAnyH_take (i := 6) (oi := { dst := some 20, op := Go.Op.indexAddr 81 (Go.Operand.tmp 19) (Go.Operand.tmp 17), type := 0, pos := "l07_nfa.go:251", after := #[{ on := 5, ground := Go.Ground.data }, { on := 3, ground := Go.Ground.data }], guard := none }) (v := ?_) rfl (by kernel_rfl) (by kernel_rfl) (by kernel_rfl) (fun _ _ _ h => h) (Or.inl ⟨by kernel_rfl, ?_⟩) (by assumption) ?_
        rotate_left
        · intro w hSw; (try dsimp only at hSw); go_simp; try with_reducible rfl
        simp only [Act.put, List.setIfInBounds_toArray, List.set_cons_zero, List.set_cons_succ]
        refine wpAnyH_take (i := 10) (oi := { dst := some 24, op := Go.Op.nilCheck (Go.Operand.tmp 14), type := 0, pos := "l07_nfa.go:251", after := #[{ on := 0, ground := Go.Ground.data }], guard := none }) (v := ?_) rfl (by kernel_rfl) (by kernel_rfl) (by kernel_rfl) (fun _ _ _ h => h) (Or.inl ⟨by kernel_rfl, ?_⟩) (by assumption) ?_
        rotate_left
        · intro w hSw; (try dsimp only at hSw); go_simp; try with_reducible rfl
        simp only [Act.put, List.setIfInBounds_toArray, List.set_cons_zero, List.set_cons_succ]
        refine wpAnyH_take (i := 11) (oi := { dst := some 25, op := Go.Op.fieldAddr 83 (Go.Operand.tmp 24) 2, type := 0, pos := "l07_nfa.go:251", after := #[{ on := 10, ground := Go.Ground.data }], guard := none }) (v := ?_) rfl (by kernel_rfl) (by kernel_rfl) (by kernel_rfl) (fun _ _ _ h => h) (Or.inl ⟨by kernel_rfl, ?_⟩) (by assumption) ?_
        rotate_left
        · intro w hSw; (try dsimp only at hSw); go_simp; try with_reducible rfl
        simp only [Act.put, List.setIfInBounds_toArray, List.set_cons_zero, List.set_cons_succ]
        refine wpAnyH_ready (rs := [7, 8]) (by kernel_rfl) (by simp) ?_
        refine AllReadyH.cons (o := { dst := some 21, op := Go.Op.load 80 (Go.Operand.tmp 20), type := 80, pos := "l07_nfa.go:251", after := #[{ on := 6, ground := Go.Ground.data }], guard := none }) rfl (fun K hK => ?_) ?_
        · refine wp_load_midC (by kernel_rfl) 80 _ rfl M (2 + k * 24) rfl (bcells 24 (bh k)) _ HRV.out Try.underlying80 rfl (by rw [bcells_len]; exact info_set) ?_
          refine hK.out _ _ trivial (fun hHeld => ?_)
          clear hK K
          try simp only [Act.put, List.setIfInBounds_toArray, List.set_cons_zero, List.set_cons_succ]
          refine wpAnyH_ready (rs := [8]) (by kernel_rfl) (by simp) ?_
          refine AllReadyH.cons (o := { dst := some 22, op := Go.Op.load 80 (Go.Operand.tmp 5), type := 80, pos := "l07_nfa.go:251", after := #[], guard := none }) rfl (fun K hK => ?_) ?_
          · refine wp_load_midC (by kernel_rfl) 80 _ rfl (B + 1) 0 rfl (bcells 24 g) _ HYV.out Try.underlying80 rfl (by rw [bcells_len]; exact info_set) ?_
            refine hK.out _ _ trivial (fun hHeld => ?_)
            clear hK K
            try simp only [Act.put, List.setIfInBounds_toArray, List.set_cons_zero, List.set_cons_succ]
            refine wpAnyH_ready (rs := [9]) (by kernel_rfl) (by simp) ?_
            refine AllReadyH.cons (o := { dst := some 23, op := Go.Op.call { callee := Go.Callee.value (Go.Operand.func 99), args := #[Go.Operand.tmp 21, Go.Operand.tmp 22], argTypes := #[80, 80] }, type := 80, pos := "l07_nfa.go:251", after := #[{ on := 7, ground := Go.Ground.data }, { on := 8, ground := Go.Ground.data }], guard := none }) rfl (fun K hK => ?_) ?_
            · go_simp
              go_wp2_with (go_at_call 99; refine (orS_any (bh k) g _).mono ?_; rintro e w2 ⟨rfl, HB2⟩)
              have HM2 : Hid (Blk w2 M 578 (sgF sh lv fun x => if x < k then (fun y => bh x y || (f x && g y)) else bh x)) := HMV.out.of_block (HB2.out.block _ HMV.out.lt)
              have HL2 : Hid (KeptP (fun c => c = M) W w2) := HL.out.trans ((KeptP.of_below HBV.out (fun _ h _ => h)).trans (KeptP.of_below HB2.out (fun _ h _ => h)))
              refine hK.out _ _ trivial (fun hHeld => ?_)
              clear hK K
              try simp only [Act.put, List.setIfInBounds_toArray, List.set_cons_zero, List.set_cons_succ]
              refine wpAnyH_take (i := 12) (oi := { dst := some 26, op := Go.Op.indexAddr 81 (Go.Operand.tmp 25) (Go.Operand.tmp 15), type := 0, pos := "l07_nfa.go:251", after := #[{ on := 11, ground := Go.Ground.data }, { on := 1, ground := Go.Ground.data }, { on := 0, ground := Go.Ground.phase }, { on := 1, ground := Go.Ground.phase }, { on := 2, ground := Go.Ground.phase }, { on := 3, ground := Go.Ground.phase }, { on := 4, ground := Go.Ground.phase }, { on := 5, ground := Go.Ground.phase }, { on := 6, ground := Go.Ground.phase }, { on := 7, ground := Go.Ground.phase }, { on := 8, ground := Go.Ground.phase }, { on := 9, ground := Go.Ground.phase }], guard := none }) (v := ?_) rfl (by kernel_rfl) (by kernel_rfl) (by kernel_rfl) (fun _ _ _ h => h) (Or.inl ⟨by kernel_rfl, ?_⟩) (by assumption) ?_
              rotate_left
              · intro w hSw; (try dsimp only at hSw); go_simp; try with_reducible rfl
              simp only [Act.put, List.setIfInBounds_toArray, List.set_cons_zero, List.set_cons_succ]
              refine wpAnyH_ready (rs := [13]) (by kernel_rfl) (by simp) ?_
              refine AllReadyH.cons (o := { dst := none, op := Go.Op.store 80 (Go.Operand.tmp 26) (Go.Operand.tmp 23), type := 0, pos := "l07_nfa.go:251", after := #[{ on := 12, ground := Go.Ground.data }, { on := 9, ground := Go.Ground.data }, { on := 9, ground := Go.Ground.chain }, { on := 0, ground := Go.Ground.phase }, { on := 1, ground := Go.Ground.phase }, { on := 2, ground := Go.Ground.phase }, { on := 3, ground := Go.Ground.phase }, { on := 4, ground := Go.Ground.phase }, { on := 5, ground := Go.Ground.phase }, { on := 6, ground := Go.Ground.phase }, { on := 7, ground := Go.Ground.phase }, { on := 8, ground := Go.Ground.phase }, { on := 9, ground := Go.Ground.phase }], guard := none }) rfl (fun K hK => ?_) ?_
              · rw [if_pos (by kernel_rfl)]
                refine wp_store_mid 80 _ _ rfl M (2 + k * 24) (bcells 24 fun i => bh k i || g i).toArray rfl rfl (by rw [bcells_size]; exact sg_there HM2.out hlt) (by rw [bcells_size]; exact info_set) (bcells_one _ _) ?_
                have HM3 := Hid_mk (sg_put HM2.out hlt (fun i => bh k i || g i))
                have HL3 : Hid (KeptP (fun c => c = M) W (w2.setCells M (2 + k * 24) (bcells 24 fun i => bh k i || g i))) := KeptP.setCells (p := fun c => c = M) (g := M) rfl _ _ HL2.out
                refine hK.out _ _ trivial (fun hHeld => ?_)
                clear hK K
                try simp only [Act.put]
                refine wpAnyH_done (by kernel_rfl) ?_ _
                clear hHeld
                have HM4 : Hid (Blk (w2.setCells M (2 + k * 24) (bcells 24 fun i => bh k i || g i)) M 578 (sgF sh lv fun x => if x < k + 1 then (fun y => bh x y || (f x && g y)) else bh x)) := sg_congr HM3.out (fun x z _ _ => by
                  by_cases e : x < k
                  · rw [if_neg (by omega), if_pos e, if_pos (by omega)]
                  · by_cases e2 : x = k
                    · subst e2; rw [if_pos rfl, if_pos (by omega), ← HYY.out]; simp
                    · rw [if_neg e2, if_neg e, if_neg (by omega)])
                clear HM3 HM2 HL2
                go_wp2
                go_roundw
                case rel => exact ⟨k + 1, by go_num, by omega, HM4, HL3⟩
                case measure => simp [intOf]; omega
              exact AllReadyH.nil
            exact AllReadyH.nil
          exact AllReadyH.nil
        refine AllReadyH.cons (o := { dst := some 22, op := Go.Op.load 80 (Go.Operand.tmp 5), type := 80, pos := "l07_nfa.go:251", after := #[], guard := none }) rfl (fun K hK => ?_) ?_
        · refine wp_load_midC (by kernel_rfl) 80 _ rfl (B + 1) 0 rfl (bcells 24 g) _ HYV.out Try.underlying80 rfl (by rw [bcells_len]; exact info_set) ?_
          refine hK.out _ _ trivial (fun hHeld => ?_)
          clear hK K
          try simp only [Act.put, List.setIfInBounds_toArray, List.set_cons_zero, List.set_cons_succ]
          refine wpAnyH_ready (rs := [7]) (by kernel_rfl) (by simp) ?_
          refine AllReadyH.cons (o := { dst := some 21, op := Go.Op.load 80 (Go.Operand.tmp 20), type := 80, pos := "l07_nfa.go:251", after := #[{ on := 6, ground := Go.Ground.data }], guard := none }) rfl (fun K hK => ?_) ?_
          · refine wp_load_midC (by kernel_rfl) 80 _ rfl M (2 + k * 24) rfl (bcells 24 (bh k)) _ HRV.out Try.underlying80 rfl (by rw [bcells_len]; exact info_set) ?_
            refine hK.out _ _ trivial (fun hHeld => ?_)
            clear hK K
            try simp only [Act.put, List.setIfInBounds_toArray, List.set_cons_zero, List.set_cons_succ]
            refine wpAnyH_ready (rs := [9]) (by kernel_rfl) (by simp) ?_
            refine AllReadyH.cons (o := { dst := some 23, op := Go.Op.call { callee := Go.Callee.value (Go.Operand.func 99), args := #[Go.Operand.tmp 21, Go.Operand.tmp 22], argTypes := #[80, 80] }, type := 80, pos := "l07_nfa.go:251", after := #[{ on := 7, ground := Go.Ground.data }, { on := 8, ground := Go.Ground.data }], guard := none }) rfl (fun K hK => ?_) ?_
            · go_simp
              go_wp2_with (go_at_call 99; refine (orS_any (bh k) g _).mono ?_; rintro e w2 ⟨rfl, HB2⟩)
              have HM2 : Hid (Blk w2 M 578 (sgF sh lv fun x => if x < k then (fun y => bh x y || (f x && g y)) else bh x)) := HMV.out.of_block (HB2.out.block _ HMV.out.lt)
              have HL2 : Hid (KeptP (fun c => c = M) W w2) := HL.out.trans ((KeptP.of_below HBV.out (fun _ h _ => h)).trans (KeptP.of_below HB2.out (fun _ h _ => h)))
              refine hK.out _ _ trivial (fun hHeld => ?_)
              clear hK K
              try simp only [Act.put, List.setIfInBounds_toArray, List.set_cons_zero, List.set_cons_succ]
              refine wpAnyH_take (i := 12) (oi := { dst := some 26, op := Go.Op.indexAddr 81 (Go.Operand.tmp 25) (Go.Operand.tmp 15), type := 0, pos := "l07_nfa.go:251", after := #[{ on := 11, ground := Go.Ground.data }, { on := 1, ground := Go.Ground.data }, { on := 0, ground := Go.Ground.phase }, { on := 1, ground := Go.Ground.phase }, { on := 2, ground := Go.Ground.phase }, { on := 3, ground := Go.Ground.phase }, { on := 4, ground := Go.Ground.phase }, { on := 5, ground := Go.Ground.phase }, { on := 6, ground := Go.Ground.phase }, { on := 7, ground := Go.Ground.phase }, { on := 8, ground := Go.Ground.phase }, { on := 9, ground := Go.Ground.phase }], guard := none }) (v := ?_) rfl (by kernel_rfl) (by kernel_rfl) (by kernel_rfl) (fun _ _ _ h => h) (Or.inl ⟨by kernel_rfl, ?_⟩) (by assumption) ?_
              rotate_left
              · intro w hSw; (try dsimp only at hSw); go_simp; try with_reducible rfl
              simp only [Act.put, List.setIfInBounds_toArray, List.set_cons_zero, List.set_cons_succ]
              refine wpAnyH_ready (rs := [13]) (by kernel_rfl) (by simp) ?_
              refine AllReadyH.cons (o := { dst := none, op := Go.Op.store 80 (Go.Operand.tmp 26) (Go.Operand.tmp 23), type := 0, pos := "l07_nfa.go:251", after := #[{ on := 12, ground := Go.Ground.data }, { on := 9, ground := Go.Ground.data }, { on := 9, ground := Go.Ground.chain }, { on := 0, ground := Go.Ground.phase }, { on := 1, ground := Go.Ground.phase }, { on := 2, ground := Go.Ground.phase }, { on := 3, ground := Go.Ground.phase }, { on := 4, ground := Go.Ground.phase }, { on := 5, ground := Go.Ground.phase }, { on := 6, ground := Go.Ground.phase }, { on := 7, ground := Go.Ground.phase }, { on := 8, ground := Go.Ground.phase }, { on := 9, ground := Go.Ground.phase }], guard := none }) rfl (fun K hK => ?_) ?_
              · rw [if_pos (by kernel_rfl)]
                refine wp_store_mid 80 _ _ rfl M (2 + k * 24) (bcells 24 fun i => bh k i || g i).toArray rfl rfl (by rw [bcells_size]; exact sg_there HM2.out hlt) (by rw [bcells_size]; exact info_set) (bcells_one _ _) ?_
                have HM3 := Hid_mk (sg_put HM2.out hlt (fun i => bh k i || g i))
                have HL3 : Hid (KeptP (fun c => c = M) W (w2.setCells M (2 + k * 24) (bcells 24 fun i => bh k i || g i))) := KeptP.setCells (p := fun c => c = M) (g := M) rfl _ _ HL2.out
                refine hK.out _ _ trivial (fun hHeld => ?_)
                clear hK K
                try simp only [Act.put]
                refine wpAnyH_done (by kernel_rfl) ?_ _
                clear hHeld
                have HM4 : Hid (Blk (w2.setCells M (2 + k * 24) (bcells 24 fun i => bh k i || g i)) M 578 (sgF sh lv fun x => if x < k + 1 then (fun y => bh x y || (f x && g y)) else bh x)) := sg_congr HM3.out (fun x z _ _ => by
                  by_cases e : x < k
                  · rw [if_neg (by omega), if_pos e, if_pos (by omega)]
                  · by_cases e2 : x = k
                    · subst e2; rw [if_pos rfl, if_pos (by omega), ← HYY.out]; simp
                    · rw [if_neg e2, if_neg e, if_neg (by omega)])
                clear HM3 HM2 HL2
                go_wp2
                go_roundw
                case rel => exact ⟨k + 1, by go_num, by omega, HM4, HL3⟩
                case measure => simp [intOf]; omega
              exact AllReadyH.nil
            exact AllReadyH.nil
          exact AllReadyH.nil
        exact AllReadyH.nil
      · subst hy
        have HM2 : Hid (Blk wr M 578 (sgF sh lv fun x => if x < k + 1 then (fun y => bh x y || (f x && g y)) else bh x)) := sg_congr HMR.out (fun x z _ _ => by
          by_cases e : x < k
          · rw [if_pos e, if_pos (by omega)]
          · by_cases e2 : x = k
            · subst e2; rw [if_neg e, if_pos (by omega), ← HYY.out]; simp
            · rw [if_neg e, if_neg (by omega)])
        go_wp2
        go_roundw
        case rel => exact ⟨k + 1, by go_num, by omega, HM2, HL⟩
        case measure => simp [intOf]; omega
    · obtain rfl : k = 24 := by omega
      have HFIN : Hid (Blk wr M 578 (sgF sh lv (followB bh f g))) := sg_congr HMR.out (fun x z hx _ => by rw [if_pos hx]; rfl)
      go_wp2
      go_end0
      exact ⟨rfl, HFIN, (KeptP.of_below HBW.out (fun _ h _ => h)).trans HL.out⟩
end Go.Proofs.Ytkcflhlipdnbnaa
