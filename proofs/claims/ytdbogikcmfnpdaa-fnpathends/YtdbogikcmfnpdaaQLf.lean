/-
  impl.PathEnds, impl.PathPairs.
-/
import Derived.Test.YtdbogikcmfnpdaaLdE1
import Derived.Test.YtdbogikcmfnpdaaLdE2
import Derived.Test.YtdbogikcmfnpdaaLdE3
import Derived.Test.YtdbogikcmfnpdaaLdE4
import Derived.Test.YtdbogikcmfnpdaaLdE5
import Derived.Test.YtdbogikcmfnpdaaLdE6
import Derived.Test.YtdbogikcmfnpdaaLdD
import Derived.Test.YtdbogikcmfnpdaaGOk
/-
  Where a path leads: impl.leadsOfPath.
-/
namespace Go.Proofs.Ytdbogikcmfnpdaa
open Go.RowKit

/-- what a step tells that is handed in: where it leads, in each world that comes -/
def StepTells (fv : Value) (NN : Nat) (l : List Ed) (w : World) : Prop :=
  ∀ (c : Int) (av : Value) (w0 : World), Below w.heap.size w w0 → Calls Try.prog 88 #[.iface 135 (.agg #[.int .u8 c]), av, fv] w0 fun e w' => (∃ h, e = .returned (lv h) ∧ Hid (Rep NN h (stepR l c)) ∧ Hid (∀ i, i < 13 → h i < 65536)) ∧ Hid (Below w0.heap.size w0 w')
theorem StepTells.below {fv : Value} {NN : Nat} {l : List Ed} {w w' : World} (h : StepTells fv NN l w) (hb : Below w.heap.size w w') : StepTells fv NN l w' := fun c av w0 h0 => h c av w0 (hb.trans (h0.mono hb.size))

theorem leadsOf_any (l : List Ed) (NN : Nat) (x : Pc) (ra : Option Addr) (rc lo2 hi2 : Nat) (av fv : Value) (kk : Nat) (fs : Nat → Nat → Nat) (all : List Rl) (w : World) (hN : NN ≤ 13) (hst : StepTells fv NN l w)
    (hah : AhIn w av kk fs) (hAh : Ahead NN all kk fs) (hrow : RowIn lo2 hi2 w ra x.2.2) (hh2 : hi2 ≤ w.heap.size) (hq : x.2.2.length ≤ 1048576) (hf : formOk x = true) (hko : kidsOk kk x.2.2 = true) :
    Calls Try.prog 88 #[shv ra rc x, av, fv] w fun e w' => (∃ h, e = .returned (lv h) ∧ Hid (Rep NN h (pcR NN l all x)) ∧ Hid (∀ i, i < 13 → h i < 65536)) ∧ Hid (Below w.heap.size w w') := by
  obtain ⟨p, c, ks⟩ := x
  dsimp only at hrow hq hko
  have hone : ks.length = 1 → ∃ k : Nat, k < kk ∧ ks.getD 0 0 = (k : Int) := fun h => by
    have := getD_lt hko (m := 0) (by omega)
    exact ⟨(ks.getD 0 0).toNat, by omega, by omega⟩
  rcases formOk_cases hf with ⟨rfl, h3, h4⟩ | ⟨rfl, rfl, h4⟩ | ⟨rfl, rfl, h4⟩ | ⟨rfl, rfl, h4⟩ | ⟨rfl, rfl, h4⟩ | ⟨rfl, rfl, h4⟩
  · exact hst c av w (Below.refl _ _)
  · exact leadsOf_row NN ra ks.length rc ks lo2 hi2 av fv kk fs all w hN hah hAh hrow hh2 rfl hq hko (by intro e; rw [e] at h4; simp at h4)
  · exact leadsOf_alt NN ra ks.length rc ks lo2 hi2 av fv kk fs all w hN hah hAh hrow hh2 rfl hq hko
  · obtain ⟨k, hk, he⟩ := hone h4
    have e1 : shv ra rc (4, 0, ks) = .iface 144 (.agg #[.int .i64 (k : Int)]) := by rw [← he]; rfl
    have e2 : pcR NN l all (4, 0, ks) = starR NN (getR all (k : Int)) := by rw [← he]; rfl
    rw [e1, e2]
    exact leadsOf_star NN k av fv kk fs all w hN hah hAh hk
  · obtain ⟨k, hk, he⟩ := hone h4
    have e1 : shv ra rc (5, 0, ks) = .iface 145 (.agg #[.int .i64 (k : Int)]) := by rw [← he]; rfl
    have e2 : pcR NN l all (5, 0, ks) = plusR NN (getR all (k : Int)) := by rw [← he]; rfl
    rw [e1, e2]
    exact leadsOf_plus NN k av fv kk fs all w hN hah hAh hk
  · obtain ⟨k, hk, he⟩ := hone h4
    have e1 : shv ra rc (6, 0, ks) = .iface 146 (.agg #[.int .i64 (k : Int)]) := by rw [← he]; rfl
    have e2 : pcR NN l all (6, 0, ks) = orR (getR all (k : Int)) idR := by rw [← he]; rfl
    rw [e1, e2]
    exact leadsOf_opt NN k av fv kk fs all w hN hah hAh hk

/-- the cells of leads, one behind the other -/
def aflat (fs : Nat → Nat → Nat) : Nat → List Value
  | 0 => []
  | k + 1 => aflat fs k ++ lcells (fs k)
theorem aflat_len (fs : Nat → Nat → Nat) : ∀ k, (aflat fs k).length = k * 13
  | 0 => rfl
  | k + 1 => by simp [aflat, aflat_len fs k, lcells_len]; omega
theorem aflat_get (fs : Nat → Nat → Nat) : ∀ (k i j : Nat), i < k → j < 13 → (aflat fs k)[i * 13 + j]? = (lcells (fs i))[j]?
  | k + 1, i, j, hi, hj => by
    have hl := aflat_len fs k
    unfold aflat
    by_cases e : i < k
    · rw [List.getElem?_append_left (by omega)]
      exact aflat_get fs k i j e hj
    · obtain rfl : i = k := by omega
      rw [List.getElem?_append_right (by omega), hl]
      congr 1; omega
theorem aflat_congr {fs gs : Nat → Nat → Nat} : ∀ {k : Nat}, (∀ i, i < k → fs i = gs i) → aflat fs k = aflat gs k
  | 0, _ => rfl
  | k + 1, h => by unfold aflat; rw [aflat_congr (fun i hi => h i (by omega)), h k (by omega)]
def updL (fs : Nat → Nat → Nat) (k : Nat) (h : Nat → Nat) : Nat → Nat → Nat := fun i => if i = k then h else fs i
theorem aflat_snoc (fs : Nat → Nat → Nat) (k : Nat) (h : Nat → Nat) : aflat fs k ++ lcells h = aflat (updL fs k h) (k + 1) := by
  show _ = aflat (updL fs k h) k ++ lcells (updL fs k h k)
  rw [aflat_congr (fs := updL fs k h) (gs := fs) (fun i hi => by unfold updL; rw [if_neg (by omega)])]
  simp [updL]
theorem ah_own {B k : Nat} {w : World} {v : Value} {fs : Nat → Nat → Nat} {T : Nat} (h : w.ownsRow B T 13 v k (aflat fs k)) : AhIn w v k fs := by
  rcases h.2 with ⟨_, h0⟩ | ⟨g, cap, cur, rfl, hg, hb, _⟩
  · exact .inl h0
  · refine .inr ⟨g, cap, rfl, (Array.getElem?_eq_some_iff.1 hb).1, fun i hi j v hv => ?_⟩
    have hj : j < 13 := by
      have := (List.getElem?_eq_some_iff.1 hv).1
      rwa [lcells_len] at this
    have := h.cells (g := g) rfl (i * 13 + j) v (by rw [aflat_get fs k i j hi hj]; exact hv)
    rw [Addr.add_mid, Nat.zero_add] at this
    exact this
theorem Ahead.snoc {N k : Nat} {l : List Ed} {ps : List Pc} {fs : Nat → Nat → Nat} {h : Nat → Nat} (H : Ahead N (relTo N l ps k) k fs) (hr : Rep N h (pcR N l (relTo N l ps k) (pat ps k))) (hl : ∀ i, i < 13 → h i < 65536) : Ahead N (relTo N l ps (k + 1)) (k + 1) (updL fs k h) := by
  refine ⟨relTo_len _ _ _ _, fun i hi => ?_, fun i hi j hj => ?_⟩
  · by_cases e : i = k
    · subst e; rw [relTo_last]; simpa [updL] using hr
    · rw [relTo_old (by omega)]; simpa [updL, e] using H.rep i (by omega)
  · by_cases e : i = k
    · subst e; simpa [updL] using hl j hj
    · simpa [updL, e] using H.lt i (by omega) j hj
theorem results_row2 {P : Program} {F : Func} {tmps : Array Value} {w : World} {k m t b : Nat} {v u : Value} (hr : F.results = #[.cell k t, .tmp m]) (hk : tmps[k]? = some (.pointer (some ⟨b, 0, none⟩))) (hm : tmps[m]? = some u) (hl : (loadVar t ⟨b, 0, none⟩).run P w = .ok v w) : (results F tmps).run P w = .ok (.tuple #[v, u]) w := by
  have hm' : tmps[m]?.getD undef = u := by rw [hm]; rfl
  simp [results, hr, hk, asAddr, hl, hm]
theorem info_leads3 : (Try.prog.info? 87).map (fun i => (i.zero, i.size, i.bytes)) = some (some (.agg #[.int .u16 0, .int .u16 0, .int .u16 0, .int .u16 0, .int .u16 0, .int .u16 0, .int .u16 0, .int .u16 0, .int .u16 0, .int .u16 0, .int .u16 0, .int .u16 0, .int .u16 0]), 13, 26) := by kernel_rfl
theorem okToP_at {l : List Pc} : ∀ {n k : Nat}, okToP l n = true → k < n → formOk (pat l k) = true ∧ kidsOk k (pat l k).2.2 = true
  | n + 1, k, h, hk => by
    unfold okToP at h
    simp only [Bool.and_eq_true] at h
    by_cases e : k = n
    · subst e; exact ⟨h.2.1, h.2.2⟩
    · exact okToP_at (n := n) h.1 (by omega)
theorem okP_at {l : List Pc} {k : Nat} (h : okP l = true) (hk : k < l.length) : formOk (pat l k) = true ∧ kidsOk k (pat l k).2.2 = true := by
  unfold okP at h
  simp only [Bool.and_eq_true] at h
  exact okToP_at h.2 hk
theorem okP_len {l : List Pc} (h : okP l = true) : 1 ≤ l.length ∧ l.length ≤ 60 := by
  unfold okP at h
  simp only [Bool.and_eq_true, decide_eq_true_eq] at h
  exact h.1
theorem lcells_list (h : Nat → Nat) : lcells h = [.int .u16 (h 0 : Int), .int .u16 (h 1 : Int), .int .u16 (h 2 : Int), .int .u16 (h 3 : Int), .int .u16 (h 4 : Int), .int .u16 (h 5 : Int), .int .u16 (h 6 : Int), .int .u16 (h 7 : Int), .int .u16 (h 8 : Int), .int .u16 (h 9 : Int), .int .u16 (h 10 : Int), .int .u16 (h 11 : Int), .int .u16 (h 12 : Int)] := rfl
theorem news_leads (w : World) (h : Nat → Nat) (T : TypeId) : ∀ j u, (lcells h)[j]? = some u → (w.alloc (.cells (lcells h).toArray T)).cell? ((⟨w.heap.size, 0, none⟩ : Addr).add j) = some u := by
  intro j u hu
  have := (LBlk.new w _ rfl h T).range j u hu
  rw [Addr.add_mid]; exact this
/-- what leadsOfPath tells -/
def LpPost (NN : Nat) (l : List Ed) (ps : List Pc) (w : World) (e : Ending) (w' : World) : Prop :=
  ∃ (h : Nat → Nat) (r : Bool), e = .returned (.tuple #[lv h, .bool r]) ∧ Hid (r = okP ps) ∧ Hid (r = true → Rep NN h (ldR NN l ps)) ∧ Hid (∀ i, i < 13 → h i < 65536) ∧ Hid (Below w.heap.size w w')

set_option maxHeartbeats 4000000 in
set_option maxRecDepth 100000 in
theorem leadsOfPath_any (l : List Ed) (NN lo2 hi2 : Nat) (b : Option Addr) (m mc : Nat) (ps : List Pc) (fv : Value) (w : World) (hN : NN ≤ 13) (hst : StepTells fv NN l w)
    (hb : PathIn lo2 hi2 w b ps) (hh2 : hi2 ≤ w.heap.size) (hn2 : ps.length = m) (hm2 : m ≤ 1048576) (hq : ∀ i, i < m → (pat ps i).2.2.length ≤ 1048576) :
    Calls Try.prog 72 #[pv b m mc, fv] w fun e w' => LpPost NN l ps w e w' := by
  have HST : Hid (StepTells fv NN l w) := hst
  have HP : Hid (PathIn lo2 hi2 w b ps) := hb
  have HH2 : Hid (hi2 ≤ w.heap.size) := hh2
  have HN2 : Hid (ps.length = m) := hn2
  have HQ : Hid (∀ i, i < m → (pat ps i).2.2.length ≤ 1048576) := hq
  have HNN : Hid (NN ≤ 13) := hN
  obtain ⟨i0, hi0, hz0, hz1, hz2⟩ := info_parts info_leads3
  clear hst hb hh2 hn2 hq hN
  obtain ⟨B, HB⟩ : ∃ B, Hid (B = w.heap.size) := ⟨_, rfl⟩
  obtain ⟨W, HW⟩ : ∃ W, Hid (W = (w.alloc (.cells #[.slice b m mc] 36)).alloc (.cells #[.int .u16 0, .int .u16 0, .int .u16 0, .int .u16 0, .int .u16 0, .int .u16 0, .int .u16 0, .int .u16 0, .int .u16 0, .int .u16 0, .int .u16 0, .int .u16 0, .int .u16 0] 87)) := ⟨_, rfl⟩
  have HBW : Hid (Below w.heap.size w W) := by rw [HW.out]; exact below2 w _ _
  have HSW : Hid (W.heap.size = B + 2) := by rw [HW.out, HB.out]; show _ = _; simp
  have HPB : Hid (Blk W B 1 (fun _ => .slice b m mc)) := by rw [HW.out]; exact (blk_one _ B HB.out _ _).alloc _
  have HZ : Hid (LBlk W (B + 1) (fun _ => 0)) := by rw [HW.out]; exact LBlk.zero _ (B + 1) (by rw [HB.out]; simp) _
  have HNO : Hid (∀ w', okP ps = false → Below w.heap.size w w' → LpPost NN l ps w (.returned (.tuple #[lv (fun _ => 0), .bool false])) w') := by
    intro w' h1 h2
    refine ⟨_, false, rfl, h1.symm, ?_, ?_, h2⟩
    · intro h; cases h
    · intro i _; show (0 : Nat) < 65536; omega
  have q0 := HPB.out.cell (i := 0) (by omega)
  unfold pv
  go_enter Try.func72, Try.ntmps72
  obtain ⟨FF, HFF⟩ : ∃ F : Func, Hid (F = Try.f72) := ⟨_, rfl⟩
  rw [← HFF.out]
  go_upto_region 1 with fail
  rw [← HB.out, ← HW.out]
  clear HW
  go_wp2_with fail
  refine (shapesOf_any lo2 hi2 b m mc ps W (HP.out.below HBW.out HH2.out) (Nat.le_trans HH2.out HBW.out.size) HN2.out hm2 HQ.out).mono ?_
  rintro e w2 ⟨v1, r1, rfl, HR1, HV1, HB1⟩
  have HBE2 : Hid (Below w.heap.size w w2) := HBW.out.trans (HB1.out.mono HBW.out.size)
  have HZ2 : Hid (LBlk w2 (B + 1) (fun _ => 0)) := HZ.out.of (HB1.out.block _ HZ.out.lt)
  clear q0
  rcases Bool.eq_false_or_eq_true r1 with hr | hr
  · subst hr
    have HOKP : Hid (okP ps = true) := HR1.out.symm
    obtain ⟨xs, HSH, HOS⟩ := HV1.out (by simp)
    have HLEN : Hid (1 ≤ m ∧ m ≤ 60) := by rw [← HN2.out]; exact okP_len HOKP.out
    obtain ⟨gs, cs, rfl, hgs⟩ : ∃ gs cs, v1 = .slice (some ⟨gs, 0, none⟩) ps.length cs ∧ gs < w2.heap.size := by
      rcases HOS.2 with ⟨_, h0⟩ | ⟨g, c, cur, e, _, hb, _⟩
      · have := HLEN.out; have := HN2.out; omega
      · exact ⟨g, c, e, (Array.getElem?_eq_some_iff.1 hb).1⟩
    rw [HN2.out] at HOS ⊢
    have HXS : Hid (∀ j u, xs[j]? = some u → w2.cell? ⟨gs, j, none⟩ = some u) := by
      intro j u hu
      have := HOS.cells (g := gs) rfl j u hu
      rw [Addr.add_mid, Nat.zero_add] at this
      exact this
    have HSH2 : Hid (Shs lo2 hi2 W xs ps m) := by rw [← HN2.out]; exact HSH
    obtain ⟨M, HM⟩ : ∃ M, Hid (M = w2.heap.size) := ⟨_, rfl⟩
    have HM3 : Hid (B + 2 ≤ M) := by rw [HM.out, ← HSW.out]; exact HB1.out.size
    have HX2 : Hid (Below W.heap.size W w2) := HB1.out
    clear HSH HOS hgs HR1 HV1 HNO HB1
    go_wp2
    rw [← HM.out]
    go_loopw [22, 8] (fun i v wr => ∃ (k : Nat) (fs : Nat → Nat → Nat), i = .int .i64 k ∧ k ≤ m ∧ Hid (wr.ownsRow M 87 13 v k (aflat fs k)) ∧ Hid (Ahead NN (relTo NN l ps k) k fs) ∧ Hid (Below M w2 wr)) (fun i _ _ => m - (intOf i).toNat)
    case atStart =>
      refine ⟨0, fun _ _ => 0, rfl, by omega, ?_, ⟨rfl, fun i hi => absurd hi (by omega), fun i hi => absurd hi (by omega)⟩, ?_⟩
      · show World.ownsRow _ _ _ _ _ _ []
        have := World.ownsRow_made w2 (base := M) (e := 87) (size := 13) #[] 0 (by rw [HM.out]; exact Nat.le_refl _) (Nat.zero_le _) rfl
        simpa [HM.out] using this
      · exact (Below.refl _ _).alloc (by rw [HM.out]; exact Nat.le_refl _) _
    case round =>
      obtain ⟨k, fs, rfl, hk, HO, HAH, HL⟩ := hrel
      have HLM : Hid (Below w2.heap.size w2 wr) := by rw [← HM.out]; exact HL.out
      have hszr : M ≤ wr.heap.size := by have := HLM.out.size; have := HM.out; omega
      have HBER : Hid (Below w.heap.size w wr) := HBE2.out.trans (HLM.out.mono HBE2.out.size)
      by_cases hlt : k < m
      · have hlt1 : (k : Int) < (m : Int) := by omega
        have hlt0 : (0 : Int) ≤ (k : Int) := by omega
        obtain ⟨ra, rc, hx, hrow⟩ := HSH2.out.2 k hlt
        have hxk : k < xs.length := by rw [HSH2.out.1]; exact hlt
        obtain ⟨t1, u1, hif⟩ := shv_if ra rc (pat ps k)
        have HV : Hid (Value.iface t1 u1 = shv ra rc (pat ps k)) := hif.symm
        have hc : wr.cell? ⟨gs, k, none⟩ = some (.iface t1 u1) := by
          have : w2.cell? ⟨gs, k, none⟩ = some (.iface t1 u1) := HXS.out k _ (by rw [← hif, ← hx]; simp [List.getD, hxk])
          exact cell_below this HLM.out (lt_of_cell this)
        have HROW : Hid (RowIn lo2 hi2 wr ra (pat ps k).2.2) := by
          exact hrow.below (HX2.out.trans (HLM.out.mono HX2.out.size)) (Nat.le_trans HH2.out HBW.out.size)
        have HFK := okP_at HOKP.out (k := k) (by rw [HN2.out]; exact hlt)
        have HFK2 : Hid (formOk (pat ps k) = true ∧ kidsOk k (pat ps k).2.2 = true) := HFK
        have HQK : Hid ((pat ps k).2.2.length ≤ 1048576) := HQ.out k hlt
        have HAI : Hid (AhIn wr _ k fs) := ah_own HO.out
        clear hrow hx hif HFK
        go_wp2_with fail
        rw [HV.out]
        refine (leadsOf_any l NN (pat ps k) ra rc lo2 hi2 _ fv k fs (relTo NN l ps k) wr HNN.out (HST.out.below HBER.out) HAI.out HAH.out HROW.out (Nat.le_trans HH2.out HBER.out.size) HQK.out HFK2.out.1 HFK2.out.2).mono ?_
        rintro e w3 ⟨⟨h, rfl, HHR, HHL⟩, HB3⟩
        have HO3 : Hid (w3.ownsRow M 87 13 _ k (aflat fs k)) := owns_upto (M := wr.heap.size) HO.out (fun k hk => (HO.out.lt k hk).2) (fun k _ h => HB3.out.block k h)
        have hsz3 : M ≤ w3.heap.size := Nat.le_trans hszr HB3.out.size
        have HL3 : Hid (Below M w2 w3) := HL.out.trans (HB3.out.mono hszr)
        have HHN : Hid (Ahead NN (relTo NN l ps (k + 1)) (k + 1) (updL fs k h)) := HAH.out.snoc HHR.out HHL.out
        have hm60 : m ≤ 60 := HLEN.out.2
        have hown := HO3.out.alloc (.cells (lcells h).toArray 87)
        simp only [lv, lcells_list]
        go_wp2_with (at_builtin; refine wpList_append_lies _ rfl (.tmp 26) (.tmp 31) 149 rfl M 87 i0 _ 13 26 Try.underlying149 hi0 hz0 hz1 hz2 rfl (by decide) _ k (aflat fs k) rfl hown ⟨w3.heap.size, 0, none⟩ 1 1 (lcells h) rfl rfl (news_leads w3 h 87) (by simp [lcells, Value.oneCell']) (by decide) (by unfold maxLen; omega) (by omega) (by simp; omega) _ rfl ?_)
        intro g5 cap5 w6 hown5 hgrow5 _ _
        have HL6 : Hid (Below M w2 w6) := (HL3.out.alloc hsz3 _).grown hgrow5 (by simp; omega) (fun k hk => (HO3.out.lt k hk).1)
        have HO6 : Hid (w6.ownsRow M 87 13 (.slice (some ⟨g5, 0, none⟩) (k + 1) cap5) (k + 1) (aflat (updL fs k h) (k + 1))) := by rw [← aflat_snoc]; exact hown5
        clear hown hown5 hgrow5
        go_wp2
        go_roundw
        case rel => exact ⟨k + 1, updL fs k h, by go_num, by omega, HO6, HHN, HL6⟩
        case measure => simp [intOf]; omega
      · obtain rfl : k = m := by omega
        obtain ⟨z, rfl⟩ : ∃ z, k = z + 1 := ⟨k - 1, by have := HLEN.out; omega⟩
        have HZR : Hid (LBlk wr (B + 1) (fun _ => 0)) := HZ2.out.of (HLM.out.block _ HZ2.out.lt)
        obtain ⟨g, cg, rfl, hgl, hrg⟩ := (ah_own HO.out).at (i := z) (by omega)
        have HRZ : Hid (wr.rangeAt g (z * 13) (lcells (fs z))) := hrg
        have hz0' : (0 : Int) ≤ (z : Int) := by omega
        have hz1' : (z : Int) < ((z + 1 : Nat) : Int) := by omega
        have HREP : Hid (Rep NN (fs z) (ldR NN l ps)) := by
          have := HAH.out.rep z (by omega)
          unfold ldR; rw [HN2.out]; exact this
        go_wp2_with (first | (refine wpList_load_mid rfl 87 _ rfl g (z * 13) rfl (lcells (fs z)) _ HRZ.out Try.underlying87 rfl (by rw [lcells_len]; exact info_leads) ?_) | (refine wpList_store_mid rfl 87 _ _ rfl (B + 1) 0 (lcells (fs z)).toArray rfl rfl (by rw [lcells_size]; exact HZR.out.there) (by rw [lcells_size]; exact info_leads) (lcells_one _) ?_; dsimp only [Act.put]))
        obtain rfl : FF = Try.f72 := HFF.out
        refine bodyPost_ret (results_row2 (k := 4) (m := 5) (t := 87) (b := B + 1) Try.results72 rfl rfl (load_leads (HZR.out.put (fs z)))) rfl ?_
        refine ⟨fs z, true, rfl, ?_, ?_, ?_, Below.setCells (by have := HB.out; omega) _ _ HBER.out⟩
        · exact HOKP.out.symm
        · intro _; exact HREP.out
        · exact HAH.out.lt z (by omega)
  · subst hr
    go_wp2_with (refine wpList_store_mid rfl 87 _ _ rfl (B + 1) 0 (lcells (fun _ => 0)).toArray rfl rfl (by rw [lcells_size]; exact HZ2.out.there) (by rw [lcells_size]; exact info_leads) (lcells_one _) ?_; dsimp only [Act.put])
    obtain rfl : FF = Try.f72 := HFF.out
    refine bodyPost_ret (results_row2 (k := 4) (m := 5) (t := 87) (b := B + 1) Try.results72 rfl rfl (load_leads (HZ2.out.put (fun _ => 0)))) rfl ?_
    exact HNO.out _ (by rw [← HR1.out]) (Below.setCells (by have := HB.out; omega) _ _ HBE2.out)
end Go.Proofs.Ytdbogikcmfnpdaa

/-
  Where a path leads in a graph: impl.leadsInGraph.
-/
namespace Go.Proofs.Ytdbogikcmfnpdaa
open Go.RowKit

theorem graph_step (lo hi : Nat) (s : Int) (a : Option Addr) (n cap : Nat) (l : List Ed) (NN : Nat) (w : World) (ha : EdgesIn lo hi w a l) (hh : hi ≤ w.heap.size) (hn : l.length = n) (hm : n ≤ 1048576) (hok : okG s l = true) (hN : s = (NN : Int)) :
    StepTells (.func (.func 73) #[gv s a n cap] #[]) NN l w := by
  intro c av w0 h0
  refine leadsOf_stepG NN s a n cap av c (stepR l c) w0 (fun w1 h1 => ?_)
  have h := h0.trans (h1.mono h0.size)
  exact leadsOfStep_any lo hi s a n cap l c NN w1 (ha.below h hh) (Nat.le_trans hh h.size) hn hm hok hN
/-- what leadsInGraph tells -/
def LgPost (s : Int) (l : List Ed) (ps : List Pc) (w : World) (e : Ending) (w' : World) : Prop :=
  ∃ (h : Nat → Nat) (r : Bool), e = .returned (.tuple #[lv h, .bool r]) ∧ Hid (r = (okP ps && okG s l)) ∧ Hid (r = true → Rep s.toNat h (ldR s.toNat l ps)) ∧ Hid (∀ i, i < 13 → h i < 65536) ∧ Hid (Below w.heap.size w w')

set_option maxHeartbeats 1000000 in
set_option maxRecDepth 100000 in
theorem leadsInGraph_any (lo hi : Nat) (s : Int) (a : Option Addr) (n cap : Nat) (l : List Ed) (lo2 hi2 : Nat) (b : Option Addr) (m mc : Nat) (ps : List Pc) (w : World) (ha : EdgesIn lo hi w a l) (hh : hi ≤ w.heap.size) (hn : l.length = n) (hm : n ≤ 1048576)
    (hb : PathIn lo2 hi2 w b ps) (hh2 : hi2 ≤ w.heap.size) (hn2 : ps.length = m) (hm2 : m ≤ 1048576) (hq : ∀ i, i < m → (pat ps i).2.2.length ≤ 1048576) :
    Calls Try.prog 50 #[gv s a n cap, pv b m mc] w fun e w' => LgPost s l ps w e w' := by
  have HN : Hid (l.length = n) := hn
  have HA : Hid (EdgesIn lo hi w a l) := ha
  have HH : Hid (hi ≤ w.heap.size) := hh
  have HP : Hid (PathIn lo2 hi2 w b ps) := hb
  have HH2 : Hid (hi2 ≤ w.heap.size) := hh2
  have HN2 : Hid (ps.length = m) := hn2
  have HQ : Hid (∀ i, i < m → (pat ps i).2.2.length ≤ 1048576) := hq
  have hmf : ∀ (fn : Fn) (first cap : Array Value) (w : World), (Instr.makeFunc fn first cap).run Try.prog w = .ok (.func fn first cap) w := fun _ _ _ _ => rfl
  clear ha hh hn hb hh2 hn2 hq
  obtain ⟨B, HB⟩ : ∃ B, Hid (B = w.heap.size) := ⟨_, rfl⟩
  obtain ⟨W, HW⟩ : ∃ W, Hid (W = ((w.alloc (.cells #[.int .i64 s, .slice a n cap] 26)).alloc (.cells #[.slice b m mc] 36)).alloc (.cells #[.int .u16 0, .int .u16 0, .int .u16 0, .int .u16 0, .int .u16 0, .int .u16 0, .int .u16 0, .int .u16 0, .int .u16 0, .int .u16 0, .int .u16 0, .int .u16 0, .int .u16 0] 87)) := ⟨_, rfl⟩
  have HBW : Hid (Below w.heap.size w W) := by rw [HW.out]; exact below3 w _ _ _
  have HG : Hid (Blk W B 2 (fun i => if i = 0 then .int .i64 s else .slice a n cap)) := by rw [HW.out]; exact ((blk_two w B HB.out _ _ _).alloc _).alloc _
  have HPB : Hid (Blk W (B + 1) 1 (fun _ => .slice b m mc)) := by rw [HW.out]; exact (blk_one _ (B + 1) (by rw [HB.out]; simp) _ _).alloc _
  have HZ : Hid (LBlk W (B + 1 + 1) (fun _ => 0)) := by rw [HW.out]; exact LBlk.zero _ (B + 1 + 1) (by rw [HB.out]; simp) _
  obtain ⟨r, HR⟩ : ∃ r, Hid (r = okG s l) := ⟨_, rfl⟩
  have q0 := HPB.out.cell (i := 0) (by omega)
  obtain ⟨g0, g1⟩ := blk_pair_cells HG.out
  unfold pv
  go_enter Try.func50, Try.ntmps50
  obtain ⟨FF, HFF⟩ : ∃ F : Func, Hid (F = Try.f50) := ⟨_, rfl⟩
  rw [← HFF.out]
  go_upto_region 1 with fail
  rw [← HB.out, ← HW.out]
  clear HW
  go_wp2_with fail
  refine (graphOk_any lo hi s a n cap l r W (HA.out.below HBW.out HH.out) (Nat.le_trans HH.out HBW.out.size) HN.out hm HR.out).mono ?_
  rintro e w1 ⟨rfl, HB1⟩
  have HBE1 : Hid (Below w.heap.size w w1) := HBW.out.trans (HB1.out.mono HBW.out.size)
  have HZ1 : Hid (LBlk w1 (B + 1 + 1) (fun _ => 0)) := HZ.out.of (HB1.out.block _ HZ.out.lt)
  have HG1 : Hid (Blk w1 B 2 (fun i => if i = 0 then .int .i64 s else .slice a n cap)) := HG.out.of_block (HB1.out.block _ HG.out.lt)
  have HP1 : Hid (Blk w1 (B + 1) 1 (fun _ => .slice b m mc)) := HPB.out.of_block (HB1.out.block _ HPB.out.lt)
  clear q0 g0 g1
  have q0 := HP1.out.cell (i := 0) (by omega)
  obtain ⟨g0, g1⟩ := blk_pair_cells HG1.out
  rcases Bool.eq_false_or_eq_true r with hr | hr
  · subst hr
    have HOK : Hid (okG s l = true) := HR.out.symm
    obtain ⟨NN, HNN⟩ : ∃ NN : Nat, Hid (s = (NN : Int)) := ⟨s.toNat, by show _ = _; have := okG_12 HOK.out; omega⟩
    have HN13 : Hid (NN ≤ 13) := by show _ ≤ _; have := (okG_12 HOK.out).2; have := HNN.out; omega
    have HTN : Hid (s.toNat = NN) := by show _ = _; rw [HNN.out]; rfl
    go_wp2_with fail
    refine (leadsOfPath_any l NN lo2 hi2 b m mc ps _ w1 HN13.out (graph_step lo hi s a n cap l NN w1 (HA.out.below HBE1.out HH.out) (Nat.le_trans HH.out HBE1.out.size) HN.out hm HOK.out HNN.out) (HP.out.below HBE1.out HH2.out) (Nat.le_trans HH2.out HBE1.out.size) HN2.out hm2 HQ.out).mono ?_
    rintro e w2 ⟨h, r, rfl, HR2, HRE, HHL, HB2⟩
    have HBE2 : Hid (Below w.heap.size w w2) := HBE1.out.trans (HB2.out.mono HBE1.out.size)
    have HZ2 : Hid (LBlk w2 (B + 1 + 1) (fun _ => 0)) := HZ1.out.of (HB2.out.block _ HZ1.out.lt)
    go_wp2_with (refine wpList_store_mid rfl 87 _ _ rfl (B + 1 + 1) 0 (lcells h).toArray rfl rfl (by rw [lcells_size]; exact HZ2.out.there) (by rw [lcells_size]; exact info_leads) (lcells_one _) ?_; dsimp only [Act.put])
    obtain rfl : FF = Try.f50 := HFF.out
    refine bodyPost_ret (results_row2 (k := 4) (m := 5) (t := 87) (b := B + 1 + 1) Try.results50 rfl rfl (load_leads (HZ2.out.put h))) rfl ?_
    refine ⟨h, r, rfl, ?_, ?_, HHL, Below.setCells (by have := HB.out; omega) _ _ HBE2.out⟩
    · show r = _; rw [HOK.out, HR2.out, Bool.and_true]
    · intro hr; rw [HTN.out]; exact HRE.out hr
  · subst hr
    go_wp2_with (refine wpList_store_mid rfl 87 _ _ rfl (B + 1 + 1) 0 (lcells (fun _ => 0)).toArray rfl rfl (by rw [lcells_size]; exact HZ1.out.there) (by rw [lcells_size]; exact info_leads) (lcells_one _) ?_; dsimp only [Act.put])
    obtain rfl : FF = Try.f50 := HFF.out
    refine bodyPost_ret (results_row2 (k := 4) (m := 5) (t := 87) (b := B + 1 + 1) Try.results50 rfl rfl (load_leads (HZ1.out.put (fun _ => 0)))) rfl ?_
    refine ⟨_, false, rfl, ?_, ?_, ?_, Below.setCells (by have := HB.out; omega) _ _ HBE1.out⟩
    · show false = _; rw [← HR.out, Bool.and_false]
    · intro h; cases h
    · intro i _; show (0 : Nat) < 65536; omega
end Go.Proofs.Ytdbogikcmfnpdaa

namespace Go.Proofs.Ytdbogikcmfnpdaa
open Go.RowKit

/-- where a path leads from a vertex, in a graph: nothing where one of them isn't right -/
def pEnds (s : Int) (l : List Ed) (ps : List Pc) (f : Int) : List Int :=
  if (okP ps && okG s l && inV s f) = true then endsL s.toNat (ldR s.toNat l ps) f.toNat else []
theorem verts_ends {n : Nat} {h : Nat → Nat} {R : Rl} (H : Rep n h R) (hn : n ≤ 12) {i : Nat} (hi : i < n) : vertsTo (h i) 12 = endsL n R i := by
  unfold vertsTo endsL
  congr 1
  have e : (List.range 12).filter (h i).testBit = (List.range 12).filter (fun j => decide (j < n) && R i j) := List.filter_congr fun j _ => H i hi j
  rw [e]
  obtain ⟨d, hd⟩ : ∃ d, 12 = n + d := ⟨12 - n, by omega⟩
  rw [hd, List.range_add, List.filter_append]
  have e2 : ((List.range d).map (n + ·)).filter (fun j => decide (j < n) && R i j) = [] := by
    rw [List.filter_eq_nil_iff]
    intro x hx
    obtain ⟨y, _, rfl⟩ := List.mem_map.1 hx
    simp
    intro h; omega
  rw [e2, List.append_nil]
  refine List.filter_congr fun j hj => ?_
  have := List.mem_range.1 hj
  simp [this]
theorem endsL_len (n : Nat) (R : Rl) (i : Nat) : (endsL n R i).length ≤ n := by
  unfold endsL
  rw [List.length_map]
  exact Nat.le_trans (List.length_filter_le _ _) (by simp)

set_option maxHeartbeats 600000 in
set_option maxRecDepth 100000 in
theorem pathEnds_any (lo hi : Nat) (s : Int) (a : Option Addr) (n cap : Nat) (l : List Ed) (lo2 hi2 : Nat) (b : Option Addr) (m mc : Nat) (ps : List Pc) (f : Int) (w : World) (ha : EdgesIn lo hi w a l) (hh : hi ≤ w.heap.size) (hn : l.length = n) (hm : n ≤ 1048576)
    (hb : PathIn lo2 hi2 w b ps) (hh2 : hi2 ≤ w.heap.size) (hn2 : ps.length = m) (hm2 : m ≤ 1048576) (hq : ∀ i, i < m → (pat ps i).2.2.length ≤ 1048576) :
    Calls Try.prog 21 #[gv s a n cap, pv b m mc, .int .i64 f] w fun e w' => ∃ (a' : Option Addr) (n' c' : Nat), e = .returned (.slice a' n' c') ∧ Hid ((pEnds s l ps f).length = n') ∧ Hid (RowOwn w.heap.size w'.heap.size w' a' (pEnds s l ps f)) ∧ Hid (Below w.heap.size w w') := by
  have HN : Hid (l.length = n) := hn
  have HA : Hid (EdgesIn lo hi w a l) := ha
  have HH : Hid (hi ≤ w.heap.size) := hh
  have HP : Hid (PathIn lo2 hi2 w b ps) := hb
  have HH2 : Hid (hi2 ≤ w.heap.size) := hh2
  have HN2 : Hid (ps.length = m) := hn2
  have HQ : Hid (∀ i, i < m → (pat ps i).2.2.length ≤ 1048576) := hq
  clear ha hh hn hb hh2 hn2 hq
  obtain ⟨B, HB⟩ : ∃ B, Hid (B = w.heap.size) := ⟨_, rfl⟩
  obtain ⟨W, HW⟩ : ∃ W, Hid (W = (w.alloc (.cells #[.int .i64 s, .slice a n cap] 26)).alloc (.cells #[.slice b m mc] 36)) := ⟨_, rfl⟩
  have HBW : Hid (Below w.heap.size w W) := by rw [HW.out]; exact below2 w _ _
  have HSW : Hid (W.heap.size = B + 2) := by rw [HW.out, HB.out]; show _ = _; simp
  have HG : Hid (Blk W B 2 (fun i => if i = 0 then .int .i64 s else .slice a n cap)) := by rw [HW.out]; exact (blk_two w B HB.out _ _ _).alloc _
  have HPB : Hid (Blk W (B + 1) 1 (fun _ => .slice b m mc)) := by rw [HW.out]; exact blk_one _ (B + 1) (by rw [HB.out]; simp) _ _
  have q0 := HPB.out.cell (i := 0) (by omega)
  obtain ⟨g0, g1⟩ := blk_pair_cells HG.out
  unfold pv
  go_enter Try.func21, Try.ntmps21
  obtain ⟨FF, HFF⟩ : ∃ F : Func, Hid (F = Try.f21) := ⟨_, rfl⟩
  rw [← HFF.out]
  go_upto_region 1 with fail
  rw [← HB.out, ← HW.out]
  clear HW
  go_wp2_with fail
  refine (leadsInGraph_any lo hi s a n cap l lo2 hi2 b m mc ps W (HA.out.below HBW.out HH.out) (Nat.le_trans HH.out HBW.out.size) HN.out hm (HP.out.below HBW.out HH2.out) (Nat.le_trans HH2.out HBW.out.size) HN2.out hm2 HQ.out).mono ?_
  rintro e w1 ⟨h, r, rfl, HR, HRE, HHL, HB1⟩
  obtain ⟨P7, HP7⟩ : ∃ P, Hid (P = w1.heap.size) := ⟨_, rfl⟩
  obtain ⟨W2, HW2⟩ : ∃ W1, Hid (W1 = (w1.alloc (.cells #[.int .u16 0, .int .u16 0, .int .u16 0, .int .u16 0, .int .u16 0, .int .u16 0, .int .u16 0, .int .u16 0, .int .u16 0, .int .u16 0, .int .u16 0, .int .u16 0, .int .u16 0] 87)).setCells P7 0 (lcells h)) := ⟨_, rfl⟩
  have HT1 : Hid ((w1.alloc (.cells #[.int .u16 0, .int .u16 0, .int .u16 0, .int .u16 0, .int .u16 0, .int .u16 0, .int .u16 0, .int .u16 0, .int .u16 0, .int .u16 0, .int .u16 0, .int .u16 0, .int .u16 0] 87)).there w1.heap.size 0 13) := (LBlk.zero w1 _ rfl _).there
  have HX2 : Hid (LBlk W2 P7 h) := by rw [HW2.out]; exact (LBlk.zero w1 P7 HP7.out _).put h
  have HBW2 : Hid (Below W.heap.size W W2) := by rw [HW2.out]; exact Below.setCells (by have := HP7.out; have := HB1.out.size; omega) _ _ (HB1.out.trans ((below1 w1 _).mono HB1.out.size))
  have HBE2 : Hid (Below w.heap.size w W2) := HBW.out.trans (HBW2.out.mono HBW.out.size)
  have HG2 : Hid (Blk W2 B 2 (fun i => if i = 0 then .int .i64 s else .slice a n cap)) := HG.out.of_block (HBW2.out.block _ HG.out.lt)
  clear q0 g0 g1
  obtain ⟨g0, g1⟩ := blk_pair_cells HG2.out
  go_upto_region 2 with (with_reducible refine wpList_here ?_; refine wpList_store_mid rfl 87 _ _ rfl w1.heap.size 0 (lcells h).toArray rfl rfl (by rw [lcells_size]; exact HT1.out) (by rw [lcells_size]; exact info_leads) (lcells_one _) ?_; dsimp only [Act.put])
  rw [← HP7.out]
  first | rw [← HW2.out] | (rw [show _ = W2 from HW2.out.symm])
  clear HW2 HT1
  obtain ⟨V, HV⟩ : ∃ V, Hid (V = inV s f) := ⟨_, rfl⟩
  have HNO : Hid (r = false ∨ V = false → pEnds s l ps f = []) := by
    intro h
    unfold pEnds
    rw [← HR.out, ← HV.out]
    rcases h with h | h <;> simp [h]
  rcases Bool.eq_false_or_eq_true r with hr | hr
  · subst hr
    go_wp2_with fail
    refine (isVertex_any f s V _ HV.out).mono ?_
    rintro e w3 ⟨rfl, rfl⟩
    rcases Bool.eq_false_or_eq_true V with hr | hr
    · subst hr
      have hin : 0 ≤ f ∧ f < s := by have := HV.out; unfold inV at this; simpa using this.symm
      have hs12 : s ≤ 12 := by
        have := HR.out
        have h2 : okG s l = true := by
          have h3 := this.symm
          simp only [Bool.and_eq_true] at h3
          exact h3.2
        exact (okG_12 h2).2
      obtain ⟨z, rfl⟩ : ∃ z : Nat, f = (z : Int) := ⟨f.toNat, by omega⟩
      have hz12 : z < 12 := by omega
      have hz1 : (z : Int) < 13 := by omega
      have hz0 : (0 : Int) ≤ (z : Int) := by omega
      have hx := HX2.out.get (k := z) (by omega)
      have HE : Hid (vertsTo (h z) 12 = pEnds s l ps (z : Int)) := by
        show _ = _
        rw [verts_ends (HRE.out (by simp)) (by omega) (i := z) (by omega)]
        unfold pEnds
        rw [← HR.out, ← HV.out]
        rfl
      go_wp2_with fail
      refine (vertices_any (h z) _ (HHL.out z (by omega))).mono ?_
      rintro e w4 ⟨a', n', c', rfl, HL4, HR4, HB4⟩
      rw [HE.out] at HL4 HR4
      go_wp2
      obtain rfl : FF = Try.f21 := HFF.out
      go_ret
      exact ⟨a', n', c', rfl, HL4, HR4.out.wide (HBE2.out.size) (Nat.le_refl _), HBE2.out.trans (HB4.out.mono HBE2.out.size)⟩
    · subst hr
      have HE : Hid (pEnds s l ps f = []) := HNO.out (.inr rfl)
      go_wp2
      obtain rfl : FF = Try.f21 := HFF.out
      go_ret
      rw [HE.out]
      first | exact ⟨_, _, _, rfl, rfl, .inl rfl, HBE2.out.alloc (HBE2.out.size) _⟩ | exact ⟨_, _, ⟨_, rfl⟩, rfl, .inl rfl, HBE2.out.alloc (HBE2.out.size) _⟩ | exact ⟨_, ⟨_, rfl⟩, .inl rfl, HBE2.out.alloc (HBE2.out.size) _⟩ | exact ⟨⟨_, _, _, rfl, rfl, .inl rfl⟩, HBE2.out.alloc (HBE2.out.size) _⟩
  · subst hr
    have HE : Hid (pEnds s l ps f = []) := HNO.out (.inl rfl)
    go_wp2
    obtain rfl : FF = Try.f21 := HFF.out
    go_ret
    rw [HE.out]
    first | exact ⟨_, _, _, rfl, rfl, .inl rfl, HBE2.out.alloc (HBE2.out.size) _⟩ | exact ⟨_, _, ⟨_, rfl⟩, rfl, .inl rfl, HBE2.out.alloc (HBE2.out.size) _⟩ | exact ⟨_, ⟨_, rfl⟩, .inl rfl, HBE2.out.alloc (HBE2.out.size) _⟩ | exact ⟨⟨_, _, _, rfl, rfl, .inl rfl⟩, HBE2.out.alloc (HBE2.out.size) _⟩
end Go.Proofs.Ytdbogikcmfnpdaa
