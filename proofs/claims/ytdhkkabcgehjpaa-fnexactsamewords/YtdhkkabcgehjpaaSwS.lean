/-
  The model's SameWords: words gone through level by level.
-/
import Derived.Test.YtdhkkabcgehjpaaSwL
import Derived.Test.YtdhkkabcgehjpaaNOkS
import Derived.Deep.RegionHeld3
import Derived.Laws.IdiomStrings
namespace Go.Proofs.Ytdhkkabcgehjpaa
open Go.RowKit

/-- texts as cells -/
def strC (l : List ByteArray) : List Value := l.map Value.string
theorem strC_snoc (l : List ByteArray) (t : ByteArray) : strC (l ++ [t]) = strC l ++ [.string t] := by simp [strC]
theorem strC_get {l : List ByteArray} {i : Nat} (h : i < l.length) (d : Value) : (strC l).getD i d = .string (l.getD i ByteArray.empty) := by simp [strC, List.getD, h]
/-- texts that are these words -/
def TWs (Ts : List ByteArray) (Ws : List (List Nat)) : Prop := Ts.length = Ws.length ∧ ∀ i, i < Ws.length → TW (Ts.getD i ByteArray.empty) (Ws.getD i [])
theorem TWs.nil : TWs [] [] := ⟨rfl, fun i h => absurd h (by simp)⟩
theorem TWs.snoc {Ts : List ByteArray} {Ws : List (List Nat)} {T : ByteArray} {W : List Nat} (h : TWs Ts Ws) (hT : TW T W) : TWs (Ts ++ [T]) (Ws ++ [W]) := by
  refine ⟨by simp [h.1], fun i hi => ?_⟩
  by_cases e : i < Ws.length
  · have e' : i < Ts.length := by rw [h.1]; exact e
    have := h.2 i e
    simp only [List.getD, List.getElem?_append_left e, List.getElem?_append_left e'] at this ⊢
    exact this
  · have hi' : i = Ws.length := by simp at hi; omega
    subst hi'
    rw [show (Ws ++ [W]).getD Ws.length [] = W by simp [List.getD], ← h.1]
    simpa [List.getD] using hT
theorem take_snocW (Ws : List (List Nat)) {k : Nat} (h : k < Ws.length) : Ws.take (k + 1) = Ws.take k ++ [Ws.getD k []] := by
  rw [List.take_add_one, List.getD, List.getElem?_eq_getElem h]
  rfl
theorem info9s : (Try.prog.info? 9).map (fun i => (i.zero, i.size, i.bytes)) = some (some (.string ⟨#[]⟩), 1, 16) := by kernel_rfl
theorem cell_new1 (w : World) (x : Value) (T : TypeId) (b : Nat) (hb : b = w.heap.size) : (w.alloc (.cells #[x] T)).cell? ⟨b, 0, none⟩ = some x := (blk_one w b hb x T).cell (i := 0) (by omega)
theorem news_new1 (w : World) (x : Value) (T : TypeId) : ∀ j u, [x][j]? = some u → (w.alloc (.cells #[x] T)).cell? ((⟨w.heap.size, 0, none⟩ : Addr).add j) = some u := by
  intro j u hj
  have h0 : j = 0 := by have := (List.getElem?_eq_some_iff.1 hj).1; simpa using this
  subst h0
  have hu : x = u := by simpa using hj
  subst hu
  exact cell_new1 w x T _ rfl
theorem conv_cell8 {w : World} {b : Nat} {c : Nat} (h : w.cell? ⟨b, 0, none⟩ = some (.int .u8 (97 + (c : Int)))) (hc : c ≤ 4) :
    (convert 94 9 (.slice (some ⟨b, 0, none⟩) 1 1)).run Try.prog w = .ok (.string ⟨#[UInt8.ofNat (97 + c)]⟩) w := by
  have e : (UInt8.ofNat (97 + c)).toNat = 97 + c := by rw [UInt8.toNat_ofNat']; omega
  refine run_convert_bytes_back _ 94 9 5 ⟨b, 0, none⟩ 1 [UInt8.ofNat (97 + c)] Try.underlying94 Try.underlying5 Try.underlying9 fun j hj => ?_
  have hj0 : j = 0 := by simpa using hj
  subst hj0
  show w.cell? ⟨b, 0, none⟩ = some (.int .u8 (((UInt8.ofNat (97 + c)).toNat : Nat) : Int))
  rw [e, h]
  simp
theorem TW.push {T : ByteArray} {W : List Nat} {c : Nat} (h : TW T W) (hc : c ≤ 4) : TW (T ++ ⟨#[UInt8.ofNat (97 + c)]⟩) (W ++ [c]) := by
  have hs : (T ++ ⟨#[UInt8.ofNat (97 + c)]⟩ : ByteArray).size = T.size + 1 := by rw [ByteArray.size_append]; rfl
  refine h.snoc hs (fun k hk => ?_) ?_
  · unfold bt
    rw [dif_pos (by omega), dif_pos hk, ByteArray.getElem_append_left hk]
  · unfold bt
    rw [dif_pos (by omega), ByteArray.getElem_append_right (by omega)]
    simp only [Nat.sub_self]
    show (UInt8.ofNat (97 + c)).toNat = _
    rw [UInt8.toNat_ofNat']; omega
/-- what a value that owns a row of one-cell elements looks like -/
theorem own_shape {w : World} {base e n : Nat} {v : Value} {xs : List Value} (h : w.ownsRow base e 1 v n xs) : ∃ ao c, v = .slice ao n c ∧ (0 < n → ∃ g, ao = some ⟨g, 0, none⟩ ∧ base ≤ g ∧ g < w.heap.size ∧ ∀ j, j < n → w.cell? ⟨g, j, none⟩ = some (xs.getD j (.int .i64 0))) := by
  rcases h.2 with ⟨rfl, rfl⟩ | ⟨g, cap, cur, rfl, hg, hb, _⟩
  · exact ⟨none, 0, rfl, fun h => absurd h (by omega)⟩
  · refine ⟨_, cap, rfl, fun _ => ⟨g, rfl, hg, (Array.getElem?_eq_some_iff.1 hb).1, fun j hj => ?_⟩⟩
    have := blk_own h
    rw [Nat.mul_one] at this
    exact this.cell hj
theorem own_wide {w : World} {B B' e n : Nat} {v : Value} {xs : List Value} (h : w.ownsRow B e 1 v n xs) (hB : B' ≤ B) : w.ownsRow B' e 1 v n xs := by
  refine ⟨h.1, ?_⟩
  rcases h.2 with h | ⟨g, cap, cur, e, hg, h⟩
  · exact .inl h
  · exact .inr ⟨g, cap, cur, e, Nat.le_trans hB hg, h⟩
theorem own_grown {w w' : World} {B : Nat} {v : Value} (h : w.grownBy w' v.ownBlock) (hv : ∀ c, v.ownBlock = some c → B ≤ c) (hB : B ≤ w.heap.size) : Below B w w' := ⟨h.os, h.tape, h.output, h.size, fun k hk => h.block k (by omega) (fun e => by have := hv k e.symm; omega)⟩

section
variable (l : List Ed) (m : Nat) (l' : List Ed) (m' : Nat)
/-- the words at a level, none behind the last -/
def levX (k : Nat) : List (List Nat) := if k ≤ 6 then levW l m l' m' k else []
def nxX (k : Nat) (Ws : List (List Nat)) : List (List Nat) := if k < 6 then nextW l m l' m' Ws else []
def onX (k : Nat) (W : List Nat) (c : Nat) : List (List Nat) := if k < 6 then onW l m l' m' W c else []
theorem nxX_nil (k : Nat) : nxX l m l' m' k [] = [] := by unfold nxX nextW; split <;> simp
theorem onX_zero (k : Nat) (W : List Nat) : onX l m l' m' k W 0 = [] := by unfold onX onW; split <;> simp
theorem nxX_snoc {k : Nat} (Ws : List (List Nat)) (W : List Nat) {c : Nat} (h : k < 6 → c = 4) : nxX l m l' m' k (Ws ++ [W]) = nxX l m l' m' k Ws ++ onX l m l' m' k W c := by
  unfold nxX onX
  by_cases e : k < 6
  · rw [if_pos e, if_pos e, if_pos e, h e, nextW_snoc]
  · rw [if_neg e, if_neg e, if_neg e]; rfl
theorem levX_succ {k : Nat} (hk : k ≤ 6) : levX l m l' m' (k + 1) = nxX l m l' m' k (levW l m l' m' k) := by
  unfold levX nxX
  by_cases e : k < 6
  · rw [if_pos (by omega), if_pos e]; rfl
  · rw [if_neg (by omega), if_neg e]
end

set_option maxHeartbeats 16000000 in
set_option maxRecDepth 100000 in
theorem specSameWords_any (lo hi lo' hi' : Nat) (s s' : Int) (a a' : Option Addr) (n n' cap cap' : Nat) (l l' : List Ed) (eb eb' : Option Addr) (em em' ec ec' : Nat) (es es' : List Bool) (r : Bool) (w : World) (ha : EdgesIn lo hi w a l) (hbi : BlsIn lo hi w eb es) (hh : hi ≤ w.heap.size) (hn : l.length = n) (hje : es.length = em) (hm : n ≤ 1048576)
    (ha' : EdgesIn lo' hi' w a' l') (hbi' : BlsIn lo' hi' w eb' es') (hh' : hi' ≤ w.heap.size) (hn' : l'.length = n') (hje' : es'.length = em') (hm' : n' ≤ 1048576) (hr : r = sameW s l em es s' l' em' es') :
    Calls Try.prog 25 #[nv s a n cap eb em ec, nv s' a' n' cap' eb' em' ec'] w fun e w' => e = .returned (.bool r) ∧ Hid (Below w.heap.size w w') := by
  have HR : Hid (r = sameW s l em es s' l' em' es') := hr
  obtain ⟨i9, hi9, hz90, hz91, hz92⟩ := info_parts info9s
  obtain ⟨u, HU⟩ : ∃ u, Hid (u = okN s l em) := ⟨_, rfl⟩
  obtain ⟨u', HU'⟩ : ∃ u, Hid (u = okN s' l' em') := ⟨_, rfl⟩
  obtain ⟨B, HB⟩ : ∃ B, Hid (B = w.heap.size) := ⟨_, rfl⟩
  obtain ⟨W, HW⟩ : ∃ W, Hid (W = (w.alloc (.cells #[.int .i64 s, .slice a n cap, .slice eb em ec] 30)).alloc (.cells #[.int .i64 s', .slice a' n' cap', .slice eb' em' ec'] 30)) := ⟨_, rfl⟩
  have HBW : Hid (Below w.heap.size w W) := by rw [HW.out]; exact below2 w _ _
  have HSW : Hid (W.heap.size = B + 2) := by rw [HW.out, HB.out]; show _ = _; simp
  have HN1 : Hid (Blk W B 3 (nf s a n cap eb em ec)) := by rw [HW.out]; exact (blk_nf w B HB.out _ _ _ _ _ _ _ _).alloc _
  have HN2 : Hid (Blk W (B + 1) 3 (nf s' a' n' cap' eb' em' ec')) := by rw [HW.out]; exact blk_nf _ (B + 1) (by rw [HB.out]; simp) _ _ _ _ _ _ _ _
  have HO1 : Hid (∀ w0, Below w.heap.size w w0 → Calls Try.prog 29 #[nv s a n cap eb em ec] w0 fun e w' => e = .returned (.bool u) ∧ Hid (Below w0.heap.size w0 w')) := fun w0 h => specNOk_any lo hi s a n cap l eb em ec u w0 (ha.below h hh) (Nat.le_trans hh h.size) hn hm HU.out
  have HO2 : Hid (∀ w0, Below w.heap.size w w0 → Calls Try.prog 29 #[nv s' a' n' cap' eb' em' ec'] w0 fun e w' => e = .returned (.bool u') ∧ Hid (Below w0.heap.size w0 w')) := fun w0 h => specNOk_any lo' hi' s' a' n' cap' l' eb' em' ec' u' w0 (ha'.below h hh') (Nat.le_trans hh' h.size) hn' hm' HU'.out
  have HT1 : Hid (∀ (T : ByteArray) (q : Bool) w0, Below w.heap.size w w0 → q = takesN s l em es T T.size → Calls Try.prog 8 #[nv s a n cap eb em ec, .string T] w0 fun e w' => e = .returned (.bool q) ∧ Hid (Below w0.heap.size w0 w')) := fun T q w0 h hq => specTakesN_any lo hi s a n cap l eb em ec es T _ q w0 (ha.below h hh) (hbi.below h hh) (Nat.le_trans hh h.size) hn hje hm rfl hq
  have HT2 : Hid (∀ (T : ByteArray) (q : Bool) w0, Below w.heap.size w w0 → q = takesN s' l' em' es' T T.size → Calls Try.prog 8 #[nv s' a' n' cap' eb' em' ec', .string T] w0 fun e w' => e = .returned (.bool q) ∧ Hid (Below w0.heap.size w0 w')) := fun T q w0 h hq => specTakesN_any lo' hi' s' a' n' cap' l' eb' em' ec' es' T _ q w0 (ha'.below h hh') (hbi'.below h hh') (Nat.le_trans hh' h.size) hn' hje' hm' rfl hq
  have HG1 : Hid (u = true → ∀ (T : ByteArray) (q : Bool) w0, Below w.heap.size w w0 → q = takesN s l em (allE em) T T.size → Calls Try.prog 56 #[nv s a n cap eb em ec, .string T] w0 fun e w' => e = .returned (.bool q) ∧ Hid (Below w0.heap.size w0 w')) := fun hu T q w0 h hq => by
    have h1 := okN_size (HU.out.symm.trans hu)
    obtain rfl : s = (em : Int) := h1.2.2.symm
    exact goes_any lo hi em a n cap l eb em ec T _ q w0 (ha.below h hh) (Nat.le_trans hh h.size) hn hm (by omega) rfl hq
  have HG2 : Hid (u' = true → ∀ (T : ByteArray) (q : Bool) w0, Below w.heap.size w w0 → q = takesN s' l' em' (allE em') T T.size → Calls Try.prog 56 #[nv s' a' n' cap' eb' em' ec', .string T] w0 fun e w' => e = .returned (.bool q) ∧ Hid (Below w0.heap.size w0 w')) := fun hu T q w0 h hq => by
    have h1 := okN_size (HU'.out.symm.trans hu)
    obtain rfl : s' = (em' : Int) := h1.2.2.symm
    exact goes_any lo' hi' em' a' n' cap' l' eb' em' ec' T _ q w0 (ha'.below h hh') (Nat.le_trans hh' h.size) hn' hm' (by omega) rfl hq
  have HNO : Hid (u = false ∨ u' = false → r = false) := by
    intro h
    rw [HR.out]; unfold sameW; rw [← HU.out, ← HU'.out]
    rcases h with h | h <;> simp [h]
  clear ha hbi hh hn hje hm ha' hbi' hh' hn' hje' hm' hr
  obtain ⟨c0, c1, c2⟩ := nf_cells HN1.out
  obtain ⟨d0, d1, d2⟩ := nf_cells HN2.out
  go_enter Try.func25, Try.ntmps25
  obtain ⟨FF, HFF⟩ : ∃ F : Func, Hid (F = Try.f25) := ⟨_, rfl⟩
  rw [← HFF.out]
  go_upto_region 1 with fail
  rw [← HB.out, ← HW.out]
  clear HW
  go_wp2_with fail
  refine (HO1.out _ HBW.out).mono ?_
  rintro e w1 ⟨rfl, HB1⟩
  have HBX1 : Hid (Below w.heap.size w w1) := HBW.out.trans (HB1.out.mono HBW.out.size)
  have HBW1 : Hid (Below (B + 2) W w1) := HB1.out.mono (by rw [HSW.out]; exact Nat.le_refl _)
  clear c0 c1 c2 d0 d1 d2
  rcases Bool.eq_false_or_eq_true u with hu | hu
  · subst hu
    obtain ⟨d0, d1, d2⟩ := nf_cells (HN2.out.of_block (HBW1.out.block _ (by omega)))
    go_wp2_with fail
    refine (HO2.out _ HBX1.out).mono ?_
    rintro e w2 ⟨rfl, HB2⟩
    have HBX2 : Hid (Below w.heap.size w w2) := HBX1.out.trans (HB2.out.mono HBX1.out.size)
    have HBW2 : Hid (Below (B + 2) W w2) := HBW1.out.trans (HB2.out.mono (by rw [← HSW.out]; exact HBW1.out.size))
    clear d0 d1 d2
    rcases Bool.eq_false_or_eq_true u' with hu | hu
    · subst hu
      go_upto_region 4 with fail
      obtain ⟨V, HV⟩ : ∃ V, Hid (V = w2.alloc (.cells #[.string { data := #[] }] 9)) := ⟨_, rfl⟩
      have HOV : Hid (V.ownsRow (B + 2) 9 1 (.slice (some ⟨w2.heap.size, 0, none⟩) 1 1) 1 (strC [⟨#[]⟩])) := by
        rw [HV.out]
        exact ⟨rfl, .inr ⟨w2.heap.size, 1, #[.string ⟨#[]⟩], rfl, by rw [← HSW.out]; exact HBW2.out.size, heap_alloc_new w2 _, Nat.le_refl _, by decide, rfl, rfl⟩⟩
      have HBWV : Hid (Below (B + 2) W V) := by rw [HV.out]; exact HBW2.out.alloc (by rw [← HSW.out]; exact HBW2.out.size) _
      have HTV : Hid (TWs [⟨#[]⟩] (levX l em l' em' 0)) := ⟨rfl, fun i hi => by
        have h0 : i = 0 := by simp [levX, levW] at hi; omega
        subst h0
        exact TW.nil rfl⟩
      rw [← HV.out]
      clear HV
      go_wp2
      go_loopw [6, 5] (fun i v wr => ∃ (k m5 : Nat) (Ts : List ByteArray) (v5 : Value), i = .int .i64 (k : Int) ∧ v = v5 ∧ k ≤ 7 ∧ Hid (Ts.length = m5) ∧ Hid (wr.ownsRow (B + 2) 9 1 v5 m5 (strC Ts)) ∧ Hid (TWs Ts (levX l em l' em' k)) ∧ Hid (Below (B + 2) W wr) ∧ Hid (∀ k', k' < k → ∀ V, V ∈ levW l em l' em' k' → likeW l es l' es' V)) (fun i _ _ => 7 - (intOf i).toNat)
      case atStart => exact ⟨0, 1, [⟨#[]⟩], _, rfl, rfl, by omega, rfl, HOV, HTV, HBWV, fun k' hk => absurd hk (by omega)⟩
      case round =>
        obtain ⟨k, m5, Ts, v5, rfl, rfl, hk, HTL, HOW, HTW, HBR, HLK⟩ := hrel
        by_cases hlt : k < 7
        · have hk6 : k ≤ 6 := by omega
          have hlt1 : (k : Int) ≤ 6 := by omega
          have hk0 : (0 : Int) ≤ (k : Int) := by omega
          obtain ⟨Ws, HWS⟩ : ∃ Ws, Hid (Ws = levW l em l' em' k) := ⟨_, rfl⟩
          have HTW2 : Hid (TWs Ts Ws) := by have := HTW.out; unfold levX at this; rw [if_pos hk6, ← HWS.out] at this; exact this
          have HM4 : Hid (m5 ≤ 4096) := by
            have h1 := lev_len l em l' em' k
            have h2 : 4 ^ k ≤ 4 ^ 6 := Nat.pow_le_pow_right (by omega) hk6
            have h3 := HTW2.out.1
            rw [HTL.out, HWS.out] at h3
            show _ ≤ _; rw [h3]; omega
          obtain ⟨ao, c5, rfl, hsh⟩ := own_shape HOW.out
          obtain ⟨S7, HS7⟩ : ∃ S, Hid (S = wr.heap.size) := ⟨_, rfl⟩
          have HS2 : Hid (B + 2 ≤ S7) := by rw [HS7.out, ← HSW.out]; exact HBR.out.size
          have HSH : Hid (0 < m5 → ∃ g, ao = some ⟨g, 0, none⟩ ∧ g < S7 ∧ ∀ j, j < m5 → wr.cell? ⟨g, j, none⟩ = some (.string (Ts.getD j ByteArray.empty))) := fun h => by
            obtain ⟨g, e, _, h1, h2⟩ := hsh h
            exact ⟨g, e, by rw [HS7.out]; exact h1, fun j hj => by rw [h2 j hj, strC_get (by rw [HTL.out]; exact hj)]⟩
          clear hsh
          go_upto_region 8 with fail
          obtain ⟨X, HX⟩ : ∃ X, Hid (X = wr.alloc (.cells #[] 9)) := ⟨_, rfl⟩
          have HBX : Hid (Below (B + 2) W X) := by rw [HX.out]; exact HBR.out.alloc (by rw [← HS7.out]; exact HS2.out) _
          have HBS : Hid (Below S7 wr X) := by rw [HX.out]; exact (Below.refl _ _).alloc (by rw [HS7.out]; exact Nat.le_refl _) _
          have HSX : Hid (X.heap.size = S7 + 1) := by rw [HX.out, HS7.out]; show _ = _; simp
          have HOX : Hid (X.ownsRow S7 9 1 (.slice (some ⟨wr.heap.size, 0, none⟩) 0 0) 0 (strC [])) := by
            rw [HX.out]
            exact World.ownsRow_made wr (base := S7) (e := 9) (size := 1) #[] 0 (by rw [HS7.out]; exact Nat.le_refl _) (Nat.zero_le _) rfl
          have HSHX : Hid (0 < m5 → ∃ g, ao = some ⟨g, 0, none⟩ ∧ g < S7 ∧ ∀ j, j < m5 → X.cell? ⟨g, j, none⟩ = some (.string (Ts.getD j ByteArray.empty))) := fun h => by
            obtain ⟨g, e, h1, h2⟩ := HSH.out h
            exact ⟨g, e, h1, fun j hj => cell_below (h2 j hj) HBS.out h1⟩
          rw [← HX.out]
          have HNZ : Hid (∀ z, Below S7 X z → Blk z B 3 (nf s a n cap eb em ec) ∧ Blk z (B + 1) 3 (nf s' a' n' cap' eb' em' ec')) := fun z h => by
            have h2 := HS2.out
            have h1 : Below (B + 2) W z := HBX.out.trans (h.mono (by omega))
            exact ⟨HN1.out.of_block (h1.block _ (by omega)), HN2.out.of_block (h1.block _ (by omega))⟩
          have HWZ : Hid (∀ z, Below S7 X z → Below w.heap.size w z) := fun z h => by
            have h2 := HS2.out
            have hb := HB.out
            exact HBW.out.trans ((HBX.out.trans (h.mono (by omega))).mono (by omega))
          have HOS : Hid (∀ c, (Value.slice (some ⟨wr.heap.size, 0, none⟩) 0 0).ownBlock = some c → S7 ≤ c) := fun c hc => by
            have : wr.heap.size = c := by simpa [Value.ownBlock] using hc
            rw [HS7.out]; omega
          clear HX HBS HSH HOW HBR
          obtain ⟨vs, HVS⟩ : ∃ v, Hid (v = (Value.slice (some ⟨wr.heap.size, 0, none⟩) 0 0)) := ⟨_, rfl⟩
          rw [← HVS.out] at HOX HOS
          rw [← HVS.out]
          clear HVS HS7
          go_wp2
          go_loopw [8, 7] (fun i v wr => ∃ (j m7 : Nat) (Us : List ByteArray) (v7 : Value), i = .int .i64 (j : Int) ∧ v7 = v ∧ j ≤ m5 ∧ m7 ≤ 4 * j ∧ Hid (Us.length = m7) ∧ Hid (wr.ownsRow S7 9 1 v7 m7 (strC Us)) ∧ Hid (TWs Us (nxX l em l' em' k (Ws.take j))) ∧ Hid (Below S7 X wr) ∧ Hid (∀ V, V ∈ Ws.take j → likeW l es l' es' V)) (fun i _ _ => m5 - (intOf i).toNat)
          case atStart => exact ⟨0, 0, [], _, rfl, rfl, by omega, by omega, rfl, HOX, by rw [List.take_zero, nxX_nil]; exact TWs.nil, Below.refl _ _, fun V hV => by simp at hV⟩
          case round =>
            obtain ⟨j, m7, Us, v7, rfl, rfl, hj, hm7, HUL, HUW, HUT, HBR, HLJ⟩ := hrel
            have hm4096 := HM4.out
            by_cases hjl : j < m5
            · have hj1 : (j : Int) < (m5 : Int) := by omega
              have hj0 : (0 : Int) ≤ (j : Int) := by omega
              obtain ⟨g, rfl, hgS, hgc⟩ := HSHX.out (by omega)
              obtain ⟨T, HT⟩ : ∃ T, Hid (T = Ts.getD j ByteArray.empty) := ⟨_, rfl⟩
              obtain ⟨Wj, HWJ⟩ : ∃ V, Hid (V = Ws.getD j []) := ⟨_, rfl⟩
              have HWL : Hid (Ws.length = m5) := by rw [← HTW2.out.1]; exact HTL.out
              have HTJ : Hid (TW T Wj) := by rw [HT.out, HWJ.out]; exact HTW2.out.2 j (by rw [HWL.out]; exact hjl)
              have HWM : Hid (Wj ∈ levW l em l' em' k) := by
                rw [← HWS.out, HWJ.out, List.getD, List.getElem?_eq_getElem (by rw [HWL.out]; exact hjl)]
                exact List.getElem_mem _
              have HTK : Hid (Ws.take (j + 1) = Ws.take j ++ [Wj]) := by show _ = _; rw [HWJ.out]; exact take_snocW Ws (by rw [HWL.out]; exact hjl)
              have HWLen : Hid (Wj.length = k) := ((lev_mem HU.out.symm HU'.out.symm).1 HWM.out).1
              have HKW : Hid (∀ z, Below S7 X z → z.cell? ⟨g, j, none⟩ = some (.string T)) := fun z h => by rw [HT.out]; exact cell_below (hgc j hjl) h hgS
              obtain ⟨x, HXT⟩ : ∃ x, Hid (x = takesN s l em es T T.size) := ⟨_, rfl⟩
              obtain ⟨y, HYT⟩ : ∃ x, Hid (x = takesN s' l' em' es' T T.size) := ⟨_, rfl⟩
              have HXY : Hid (x = y ↔ likeW l es l' es' Wj) := by
                have h12 : Wj.length ≤ 12 := by rw [HWLen.out]; omega
                rw [HXT.out, HYT.out, takes_TW HU.out.symm HTJ.out h12, takes_TW HU'.out.symm HTJ.out h12]
                exact Iff.rfl
              clear hgc
              have HC1 : Hid (∀ w0, Below wr.heap.size wr w0 → Calls Try.prog 8 #[nv s a n cap eb em ec, .string T] w0 fun e w' => e = .returned (.bool x) ∧ Hid (Below wr.heap.size wr w') ∧ ((w'.cell? ⟨B, 0, none⟩ = some (.int .i64 s) ∧ w'.cell? ⟨B, 1, none⟩ = some (.slice a n cap) ∧ w'.cell? ⟨B, 2, none⟩ = some (.slice eb em ec)) ∧ w'.cell? ⟨g, j, none⟩ = some (.string T))) := fun w0 h => by
                have h7 : S7 ≤ wr.heap.size := by have := HBR.out.size; have := HSX.out; omega
                have h1 : Below S7 X w0 := HBR.out.trans (h.mono h7)
                refine (HT1.out T x w0 (HWZ.out _ h1) HXT.out).mono fun e w' ⟨h2, h3⟩ => ?_
                have h4 : Below S7 X w' := h1.trans (h3.out.mono (Nat.le_trans h7 h.size))
                exact ⟨h2, h.trans (h3.out.mono h.size), nf_cells (HNZ.out _ h4).1, HKW.out _ h4⟩
              obtain ⟨c0, c1, c2⟩ := nf_cells (HNZ.out _ HBR.out).1
              have c3 := HKW.out _ HBR.out
              go_wp2_with fail
              go_region_held3 (fun w' => (w'.cell? ⟨B, 0, none⟩ = some (.int .i64 s) ∧ w'.cell? ⟨B, 1, none⟩ = some (.slice a n cap) ∧ w'.cell? ⟨B, 2, none⟩ = some (.slice eb em ec)) ∧ w'.cell? ⟨g, j, none⟩ = some (.string T)) (first | exact ⟨⟨c0, c1, c2⟩, c3⟩ | exact hk9) (first | (go_at_call 8; refine (HC1.out _ ((Below.refl _ _).drew)).mono ?_; rintro e w9 ⟨rfl, B9, hk9⟩))
              clear c0 c1 c2 c3 hk9 HC1
              have HB9 : Hid (Below S7 X w9) := HBR.out.trans (B9.out.mono (by have := HBR.out.size; have := HSX.out; omega))
              have HU9 : Hid (w9.ownsRow S7 9 1 v7 m7 (strC Us)) := own_below HUW.out B9.out
              clear B9 HUW HBR
              have HC2 : Hid (∀ w0, Below w9.heap.size w9 w0 → Calls Try.prog 8 #[nv s' a' n' cap' eb' em' ec', .string T] w0 fun e w' => e = .returned (.bool y) ∧ Hid (Below w9.heap.size w9 w') ∧ ((w'.cell? ⟨B + 1, 0, none⟩ = some (.int .i64 s') ∧ w'.cell? ⟨B + 1, 1, none⟩ = some (.slice a' n' cap') ∧ w'.cell? ⟨B + 1, 2, none⟩ = some (.slice eb' em' ec')) ∧ w'.cell? ⟨g, j, none⟩ = some (.string T))) := fun w0 h => by
                have h7 : S7 ≤ w9.heap.size := by have := HB9.out.size; have := HSX.out; omega
                have h1 : Below S7 X w0 := HB9.out.trans (h.mono h7)
                refine (HT2.out T y w0 (HWZ.out _ h1) HYT.out).mono fun e w' ⟨h2, h3⟩ => ?_
                have h4 : Below S7 X w' := h1.trans (h3.out.mono (Nat.le_trans h7 h.size))
                exact ⟨h2, h.trans (h3.out.mono h.size), nf_cells (HNZ.out _ h4).2, HKW.out _ h4⟩
              obtain ⟨c0, c1, c2⟩ := nf_cells (HNZ.out _ HB9.out).2
              have c3 := HKW.out _ HB9.out
              have HNE : Hid (¬ x = y → r = false) := fun h => by
                rw [HR.out]
                exact sameW_no HU.out.symm HU'.out.symm hk6 HWM.out (fun h1 => h (HXY.out.2 h1))
              obtain ⟨z, hz⟩ : ∃ z, decide (x = y) = z := ⟨_, rfl⟩
              go_wp2_with fail
              go_region_held3 (fun w' => (w'.cell? ⟨B + 1, 0, none⟩ = some (.int .i64 s') ∧ w'.cell? ⟨B + 1, 1, none⟩ = some (.slice a' n' cap') ∧ w'.cell? ⟨B + 1, 2, none⟩ = some (.slice eb' em' ec')) ∧ w'.cell? ⟨g, j, none⟩ = some (.string T)) (first | exact ⟨⟨c0, c1, c2⟩, c3⟩ | exact hk10) (first | (go_at_call 8; refine (HC2.out _ ((Below.refl _ _).drew)).mono ?_; rintro e w10 ⟨rfl, B10, hk10⟩))
              clear c0 c1 c2 c3 hk10 HC2
              have HB10 : Hid (Below S7 X w10) := HB9.out.trans (B10.out.mono (by have := HB9.out.size; have := HSX.out; omega))
              have HU10 : Hid (w10.ownsRow S7 9 1 v7 m7 (strC Us)) := own_below HU9.out B10.out
              clear B10 HU9 HB9
              by_cases hxy : x = y
              · have HLX : Hid (∀ V, V ∈ Ws.take (j + 1) → likeW l es l' es' V) := fun V hV => by
                  rw [HTK.out] at hV
                  rcases List.mem_append.1 hV with h | h
                  · exact HLJ.out V h
                  · rw [List.mem_singleton.1 h]; exact HXY.out.1 hxy
                subst hxy
                clear HLJ HNE HXY
                clear hz
                rw [show (!x == x) = false by simp]
                go_wp2
                go_loopw [10, 7] (fun i v wr => ∃ (c m7 : Nat) (Us : List ByteArray) (v7 : Value), i = .int .u8 (97 + (c : Int)) ∧ v7 = v ∧ c ≤ 4 ∧ (¬ k < 6 → c = 0) ∧ m7 ≤ 4 * j + c ∧ Hid (Us.length = m7) ∧ Hid (wr.ownsRow S7 9 1 v7 m7 (strC Us)) ∧ Hid (TWs Us (nxX l em l' em' k (Ws.take j) ++ onX l em l' em' k Wj c)) ∧ Hid (Below S7 X wr)) (fun i _ _ => 101 - (intOf i).toNat)
                case atStart => exact ⟨0, m7, Us, v7, rfl, rfl, by omega, fun _ => rfl, by omega, HUL, HU10, by rw [onX_zero, List.append_nil]; exact HUT, HB10⟩
                case round =>
                  obtain ⟨c, m7, Us, v7, rfl, rfl, hc, hck, hm7, HUL, HUW, HUT, HBR⟩ := hrel
                  by_cases hc4 : c < 4
                  · have hc1 : (97 : Int) + (c : Int) ≤ 100 := by omega
                    by_cases hk6' : k < 6
                    · have hk61 : (k : Int) < 6 := by omega
                      have hwr : IntKind.u8.wrap (97 + (c : Int) + 1) = 97 + ((c + 1 : Nat) : Int) := by rw [IntKind.wrap_u8]; omega
                      have HTs : Hid (T.size = k) := by show _ = _; rw [HTJ.out.1]; exact HWLen.out
                      obtain ⟨CC, HCC⟩ : ∃ C : ByteArray, Hid (C = ⟨#[UInt8.ofNat (97 + c)]⟩) := ⟨_, rfl⟩
                      have hov : ¬ (9223372036854775807 < T.size + CC.size) := by rw [HTs.out, HCC.out]; show ¬ (_ < k + 1); omega
                      obtain ⟨T', HT'⟩ : ∃ T', Hid (T' = T ++ CC) := ⟨_, rfl⟩
                      have HTW' : Hid (TW T' (Wj ++ [c])) := by rw [HT'.out, HCC.out]; exact HTJ.out.push hc
                      have h12 : (Wj ++ [c]).length ≤ 12 := by rw [List.length_append, HWLen.out]; simp; omega
                      obtain ⟨p, HP⟩ : ∃ p, Hid (p = takesN s l em (allE em) T' T'.size) := ⟨_, rfl⟩
                      obtain ⟨q, HQ⟩ : ∃ p, Hid (p = takesN s' l' em' (allE em') T' T'.size) := ⟨_, rfl⟩
                      have HON : Hid (onX l em l' em' k Wj (c + 1) = onX l em l' em' k Wj c ++ (if p || q then [Wj ++ [c]] else [])) := by
                        have h1 := goes_TW HU.out.symm HTW'.out h12
                        have h2 := goes_TW HU'.out.symm HTW'.out h12
                        show _ = _
                        unfold onX
                        rw [if_pos hk6', if_pos hk6', onW_succ, ← h1, ← h2, ← HP.out, ← HQ.out]
                      clear h12
                      go_upto_region 17 with fail
                      have HBD : Hid (Below S7 X wr.drew) := HBR.out.drew
                      refine wp_region_held_drew (S := fun wz => wz.cell? ⟨g, j, none⟩ = some (.string T)) (by kernel_rfl) (HKW.out _ HBD.out) (fun hHeld => ?_)
                      refine wpAnyH_take (i := 0) (oi := { dst := some 54, op := Go.Op.move (Go.Operand.tmp 5), type := 93, pos := "l07_nfa.go:304", after := #[], guard := none }) (v := ?_) rfl (by kernel_rfl) (by kernel_rfl) (by kernel_rfl) (fun _ _ _ h => h) (Or.inl ⟨by kernel_rfl, ?_⟩) (by assumption) ?_
                      rotate_left
                      · intro w hSw; (try dsimp only at hSw); go_simp; try with_reducible rfl
                      simp only [Act.put, List.setIfInBounds_toArray, List.set_cons_zero, List.set_cons_succ]
                      refine wpAnyH_take (i := 1) (oi := { dst := some 55, op := Go.Op.move (Go.Operand.tmp 8), type := 3, pos := "l07_nfa.go:304", after := #[], guard := none }) (v := ?_) rfl (by kernel_rfl) (by kernel_rfl) (by kernel_rfl) (fun _ _ _ h => h) (Or.inl ⟨by kernel_rfl, ?_⟩) (by assumption) ?_
                      rotate_left
                      · intro w hSw; (try dsimp only at hSw); go_simp; try with_reducible rfl
                      simp only [Act.put, List.setIfInBounds_toArray, List.set_cons_zero, List.set_cons_succ]
                      refine wpAnyH_take (i := 2) (oi := { dst := some 56, op := Go.Op.indexAddr 93 (Go.Operand.tmp 54) (Go.Operand.tmp 55), type := 0, pos := "l07_nfa.go:304", after := #[{ on := 0, ground := Go.Ground.data }, { on := 1, ground := Go.Ground.data }], guard := none }) (v := ?_) rfl (by kernel_rfl) (by kernel_rfl) (by kernel_rfl) (fun _ _ _ h => h) (Or.inl ⟨by kernel_rfl, ?_⟩) (by assumption) ?_
                      rotate_left
                      · intro w hSw; (try dsimp only at hSw); go_simp; try with_reducible rfl
                      simp only [Act.put, List.setIfInBounds_toArray, List.set_cons_zero, List.set_cons_succ]
                      refine wpAnyH_take (i := 3) (oi := { dst := some 57, op := Go.Op.load 9 (Go.Operand.tmp 56), type := 9, pos := "l07_nfa.go:304", after := #[{ on := 2, ground := Go.Ground.data }], guard := none }) (v := ?_) rfl (by kernel_rfl) (by kernel_rfl) (by kernel_rfl) (fun _ _ _ h => h) (Or.inl ⟨by kernel_rfl, ?_⟩) (by assumption) ?_
                      rotate_left
                      · intro w hSw; (try dsimp only at hSw); go_simp; try with_reducible rfl
                      simp only [Act.put, List.setIfInBounds_toArray, List.set_cons_zero, List.set_cons_succ]
                      refine wpAnyH_take (i := 4) (oi := { dst := some 58, op := Go.Op.move (Go.Operand.tmp 10), type := 5, pos := "l07_nfa.go:304", after := #[], guard := none }) (v := ?_) rfl (by kernel_rfl) (by kernel_rfl) (by kernel_rfl) (fun _ _ _ h => h) (Or.inl ⟨by kernel_rfl, ?_⟩) (by assumption) ?_
                      rotate_left
                      · intro w hSw; (try dsimp only at hSw); go_simp; try with_reducible rfl
                      simp only [Act.put, List.setIfInBounds_toArray, List.set_cons_zero, List.set_cons_succ]
                      refine wpAnyH_ready (rs := [5]) (by kernel_rfl) (by simp) ?_
                      refine AllReadyH.cons (o := { dst := some 59, op := Go.Op.buildSlice 94 1 #[(0, Go.Operand.tmp 58)], type := 94, pos := "l07_nfa.go:304", after := #[{ on := 4, ground := Go.Ground.data }], guard := none }) rfl (fun K hK => ?_) ?_
                      · go_simp
                        have HBA : Hid (Below S7 X (wr.drew.alloc (.cells #[.int .u8 (97 + (c : Int))] 5))) := HBD.out.alloc (by have := HBD.out.size; have := HSX.out; omega) _
                        refine hK.out _ _ (HKW.out _ HBA.out) (fun hHeld => ?_)
                        clear hK K
                        try simp only [Act.put, List.setIfInBounds_toArray, List.set_cons_zero, List.set_cons_succ]
                        refine wpAnyH_ready (rs := [6]) (by kernel_rfl) (by simp) ?_
                        refine AllReadyH.cons (o := { dst := some 60, op := Go.Op.convert 94 9 (Go.Operand.tmp 59), type := 9, pos := "l07_nfa.go:304", after := #[{ on := 5, ground := Go.Ground.data }], guard := none }) rfl (fun K hK => ?_) ?_
                        · have hcv := conv_cell8 (w := wr.drew.alloc (.cells #[.int .u8 (97 + (c : Int))] 5)) (b := wr.heap.size) (c := c) (cell_new1 wr.drew _ _ _ rfl) hc
                          rw [← HCC.out] at hcv
                          have hcv2 : (convert 94 9 (.slice (some ⟨wr.heap.size, 0, none⟩) 1 1)).run Try.prog (wr.alloc (.cells #[.int .u8 (97 + (c : Int))] 5)).drew = .ok (.string CC) (wr.alloc (.cells #[.int .u8 (97 + (c : Int))] 5)).drew := hcv
                          go_simp
                          refine hK.out _ _ (HKW.out _ HBA.out) (fun hHeld => ?_)
                          clear hK K
                          try simp only [Act.put, List.setIfInBounds_toArray, List.set_cons_zero, List.set_cons_succ]
                          refine wpAnyH_take (i := 7) (oi := { dst := some 61, op := Go.Op.binOp Go.BinOp.add 9 (Go.Operand.tmp 57) (Go.Operand.tmp 60) 9, type := 9, pos := "l07_nfa.go:304", after := #[{ on := 3, ground := Go.Ground.data }, { on := 6, ground := Go.Ground.data }], guard := none }) (v := ?_) rfl (by kernel_rfl) (by kernel_rfl) (by kernel_rfl) (fun _ _ _ h => h) (Or.inl ⟨by kernel_rfl, ?_⟩) (by assumption) ?_
                          rotate_left
                          · intro w hSw; (try dsimp only at hSw); go_simp; try with_reducible rfl
                          simp only [Act.put, List.setIfInBounds_toArray, List.set_cons_zero, List.set_cons_succ]
                          refine wpAnyH_take (i := 8) (oi := { dst := some 11, op := Go.Op.assign (Go.Operand.tmp 61), type := 9, pos := "l07_nfa.go:304", after := #[{ on := 7, ground := Go.Ground.data }, { on := 0, ground := Go.Ground.phase }, { on := 1, ground := Go.Ground.phase }, { on := 2, ground := Go.Ground.phase }, { on := 3, ground := Go.Ground.phase }, { on := 4, ground := Go.Ground.phase }, { on := 5, ground := Go.Ground.phase }, { on := 6, ground := Go.Ground.phase }, { on := 7, ground := Go.Ground.phase }], guard := none }) (v := ?_) rfl (by kernel_rfl) (by kernel_rfl) (by kernel_rfl) (fun _ _ _ h => h) (Or.inl ⟨by kernel_rfl, ?_⟩) (by assumption) ?_
                          rotate_left
                          · intro w hSw; (try dsimp only at hSw); go_simp; try with_reducible rfl
                          simp only [Act.put, List.setIfInBounds_toArray, List.set_cons_zero, List.set_cons_succ]
                          refine wpAnyH_done (by kernel_rfl) ?_ _
                          clear hHeld hcv hcv2
                          have HBA2 : Hid (Below S7 X (wr.alloc (.cells #[.int .u8 (97 + (c : Int))] 5)).drew) := HBA.out
                          have HUA : Hid ((wr.alloc (.cells #[.int .u8 (97 + (c : Int))] 5)).drew.ownsRow S7 9 1 v7 m7 (strC Us)) := own_below HUW.out ((below1 wr _).drew)
                          first | rw [← HT'.out] | (have hT'' := HT'.out; simp only [ByteArray.append_eq] at hT''; rw [← hT''])
                          obtain ⟨Y, HY⟩ : ∃ Y, Hid (Y = (wr.alloc (.cells #[.int .u8 (97 + (c : Int))] 5)).drew) := ⟨_, rfl⟩
                          rw [← HY.out] at HBA2 HUA
                          rw [← HY.out]
                          clear HBA HY HBD HBR HUW
                          obtain ⟨c0, c1, c2⟩ := nf_cells (HNZ.out _ HBA2.out).1
                          go_wp2_with fail
                          refine (HG1.out (by simp) T' p _ (HWZ.out _ HBA2.out) HP.out).mono ?_
                          rintro e w11 ⟨rfl, HB11⟩
                          have h7 : S7 ≤ Y.heap.size := by have := HBA2.out.size; have := HSX.out; omega
                          have HBY : Hid (Below S7 X w11) := HBA2.out.trans (HB11.out.mono h7)
                          have HUY : Hid (w11.ownsRow S7 9 1 v7 m7 (strC Us)) := own_below HUA.out HB11.out
                          clear c0 c1 c2 HUA HBA2 HB11 h7
                          rcases Bool.eq_false_or_eq_true p with hp | hp
                          · subst hp
                            have HON2 : Hid (onX l em l' em' k Wj (c + 1) = onX l em l' em' k Wj c ++ [Wj ++ [c]]) := by have := HON.out; show _ = _; simpa using this
                            clear HON
                            have h7 : S7 ≤ w11.heap.size := by have := HBY.out.size; have := HSX.out; omega
                            have hown := (HUY.out).alloc (.cells #[.string T'] 9)
                            have hlt7 := (HUY.out).lt
                            go_wp2_with (at_builtin; refine wpList_append_lies _ rfl (.tmp 70) (.tmp 72) 93 rfl S7 9 i9 (.string ⟨#[]⟩) 1 16 Try.underlying93 hi9 hz90 hz91 hz92 rfl (by decide) _ m7 (strC Us) rfl hown ⟨w11.heap.size, 0, none⟩ 1 1 [.string T'] rfl rfl (news_new1 w11 (.string T') 9) (by simp [Value.oneCell']) (by decide) (by have := HM4.out; unfold maxLen; omega) (by have := HM4.out; omega) (by simp; omega) _ rfl ?_)
                            intro g5 cap5 w6 hown5 hgrow5 hloc5 hg5
                            have HU6 : Hid (w6.ownsRow S7 9 1 (.slice (some ⟨g5, 0, none⟩) (m7 + 1) cap5) (m7 + 1) (strC (Us ++ [T']))) := by rw [strC_snoc]; exact hown5
                            have HB6 : Hid (Below S7 X w6) := (HBY.out.alloc h7 (.cells #[.string T'] 9)).trans (own_grown hgrow5 (fun c hc => (hlt7 c hc).1) (by simp; omega))
                            have HL6 : Hid ((Us ++ [T']).length = m7 + 1) := by show _ = _; rw [List.length_append, HUL.out]; rfl
                            have HT6 : Hid (TWs (Us ++ [T']) (nxX l em l' em' k (Ws.take j) ++ onX l em l' em' k Wj (c + 1))) := by rw [HON2.out, ← List.append_assoc]; exact HUT.out.snoc HTW'.out
                            clear hown hown5 hgrow5 hloc5 hg5 hlt7 h7
                            go_wp2
                            go_roundw
                            case rel => exact ⟨c + 1, m7 + 1, _, _, rfl, rfl, by omega, fun h => absurd hk6' h, by omega, HL6, HU6, HT6, HB6⟩
                            case measure => simp [intOf]; omega
                          · subst hp
                            obtain ⟨c0, c1, c2⟩ := nf_cells (HNZ.out _ HBY.out).2
                            go_wp2_with fail
                            refine (HG2.out (by simp) T' q _ (HWZ.out _ HBY.out) HQ.out).mono ?_
                            rintro e w12 ⟨rfl, HB12⟩
                            have h7 : S7 ≤ w11.heap.size := by have := HBY.out.size; have := HSX.out; omega
                            have HBY2 : Hid (Below S7 X w12) := HBY.out.trans (HB12.out.mono h7)
                            have HUY2 : Hid (w12.ownsRow S7 9 1 v7 m7 (strC Us)) := own_below HUY.out HB12.out
                            clear c0 c1 c2 HUY HBY HB12 h7
                            rcases Bool.eq_false_or_eq_true q with hq | hq
                            · subst hq
                              have HON2 : Hid (onX l em l' em' k Wj (c + 1) = onX l em l' em' k Wj c ++ [Wj ++ [c]]) := by have := HON.out; show _ = _; simpa using this
                              clear HON
                              have h7 : S7 ≤ w12.heap.size := by have := HBY2.out.size; have := HSX.out; omega
                              have hown := (HUY2.out).alloc (.cells #[.string T'] 9)
                              have hlt7 := (HUY2.out).lt
                              go_wp2_with (at_builtin; refine wpList_append_lies _ rfl (.tmp 70) (.tmp 72) 93 rfl S7 9 i9 (.string ⟨#[]⟩) 1 16 Try.underlying93 hi9 hz90 hz91 hz92 rfl (by decide) _ m7 (strC Us) rfl hown ⟨w12.heap.size, 0, none⟩ 1 1 [.string T'] rfl rfl (news_new1 w12 (.string T') 9) (by simp [Value.oneCell']) (by decide) (by have := HM4.out; unfold maxLen; omega) (by have := HM4.out; omega) (by simp; omega) _ rfl ?_)
                              intro g5 cap5 w6 hown5 hgrow5 hloc5 hg5
                              have HU6 : Hid (w6.ownsRow S7 9 1 (.slice (some ⟨g5, 0, none⟩) (m7 + 1) cap5) (m7 + 1) (strC (Us ++ [T']))) := by rw [strC_snoc]; exact hown5
                              have HB6 : Hid (Below S7 X w6) := (HBY2.out.alloc h7 (.cells #[.string T'] 9)).trans (own_grown hgrow5 (fun c hc => (hlt7 c hc).1) (by simp; omega))
                              have HL6 : Hid ((Us ++ [T']).length = m7 + 1) := by show _ = _; rw [List.length_append, HUL.out]; rfl
                              have HT6 : Hid (TWs (Us ++ [T']) (nxX l em l' em' k (Ws.take j) ++ onX l em l' em' k Wj (c + 1))) := by rw [HON2.out, ← List.append_assoc]; exact HUT.out.snoc HTW'.out
                              clear hown hown5 hgrow5 hloc5 hg5 hlt7 h7
                              go_wp2
                              go_roundw
                              case rel => exact ⟨c + 1, m7 + 1, _, _, rfl, rfl, by omega, fun h => absurd hk6' h, by omega, HL6, HU6, HT6, HB6⟩
                              case measure => simp [intOf]; omega
                            · subst hq
                              have HON2 : Hid (onX l em l' em' k Wj (c + 1) = onX l em l' em' k Wj c) := by have := HON.out; show _ = _; simpa using this
                              go_wp2
                              go_roundw
                              case rel => exact ⟨c + 1, m7, Us, v7, rfl, rfl, by omega, fun h => absurd hk6' h, by omega, HUL, HUY2, by rw [HON2.out]; exact HUT, HBY2⟩
                              case measure => simp [intOf]; omega
                        exact AllReadyH.nil
                      exact AllReadyH.nil
                    · obtain rfl : c = 0 := hck hk6'
                      have hk61 : ¬ (k : Int) < 6 := by omega
                      go_wp2
                      go_roundw
                      case rel => exact ⟨j + 1, m7, Us, v7, by go_num, rfl, by omega, by omega, HUL, HUW, by rw [HTK.out, nxX_snoc l em l' em' _ _ (c := 0) (fun h => absurd h hk6')]; exact HUT, HBR, HLX⟩
                      case measure => simp [intOf]; omega
                  · obtain rfl : c = 4 := by omega
                    have hk6' : k < 6 := by
                      rcases Nat.lt_or_ge k 6 with h | h
                      · exact h
                      · have := hck (by omega); omega
                    have hc1 : ¬ (97 : Int) + ((4 : Nat) : Int) ≤ 100 := by omega
                    go_wp2
                    go_roundw
                    case rel => exact ⟨j + 1, m7, Us, v7, by go_num, rfl, by omega, by omega, HUL, HUW, by rw [HTK.out, nxX_snoc l em l' em' _ _ (c := 4) (fun _ => rfl)]; exact HUT, HBR, HLX⟩
                    case measure => simp [intOf]; omega
              · have hr0 : r = false := HNE.out hxy
                subst hr0
                clear hz
                rw [show (!x == y) = true by simp [hxy]]
                go_wp2
                obtain rfl : FF = Try.f25 := HFF.out
                go_ret
                exact ⟨rfl, HWZ.out _ HB10.out⟩
            · obtain rfl : j = m5 := by omega
              have HTAK : Hid (Ws.take j = Ws) := List.take_of_length_le (by rw [← HTW2.out.1, HTL.out]; exact Nat.le_refl _)
              go_wp2
              go_roundw
              case rel => exact ⟨k + 1, m7, Us, v7, by go_num, rfl, by omega, HUL, own_wide HUW.out HS2.out, by rw [levX_succ l em l' em' hk6, ← HWS.out, ← HTAK.out]; exact HUT, HBX.out.trans (HBR.out.mono HS2.out), fun k' hk' V hV => by
                  rcases Nat.lt_or_ge k' k with h | h
                  · exact HLK.out k' h V hV
                  · obtain rfl : k' = k := by omega
                    rw [← HWS.out, ← HTAK.out] at hV
                    exact HLJ.out V hV⟩
              case measure => simp [intOf]; omega
        · obtain rfl : k = 7 := by omega
          go_wp2
          obtain rfl : FF = Try.f25 := HFF.out
          have hr1 : r = true := by rw [HR.out]; exact sameW_yes HU.out.symm HU'.out.symm (fun k' hk' V hV => HLK.out k' (by omega) V hV)
          subst hr1
          go_ret
          exact ⟨rfl, HBW.out.trans (HBR.out.mono (by have := HB.out; omega))⟩
    · subst hu
      have hr0 : r = false := HNO.out (.inr rfl)
      subst hr0
      go_wp2
      obtain rfl : FF = Try.f25 := HFF.out
      go_ret
      exact ⟨rfl, HBX2.out⟩
  · subst hu
    have hr0 : r = false := HNO.out (.inl rfl)
    subst hr0
    go_wp2
    obtain rfl : FF = Try.f25 := HFF.out
    go_ret
    exact ⟨rfl, HBX1.out⟩
end Go.Proofs.Ytdhkkabcgehjpaa
