/-
  The walk of FnBagTexts.
-/
import Derived.Test.YtelikebpddhncaaDrBg
import Derived.Test.YtelikebpddhncaaRdB
import Derived.Test.YtelikebpddhncaaSameB
import Derived.Test.YtelikebpddhncaaOkC
import Derived.Test.YtelikebpddhncaaBig
namespace Go.Proofs.Ytelikebpddhncaa
open Go.RowKit

theorem specOk_h (lo hi : Nat) (a : Option Addr) (n cap : Nat) (l : List It) (r : Bool) (w : World) (ha : BagIn lo hi w a l) (hh : hi ≤ w.heap.size) (hn : l.length = n) (hm : n ≤ 1048576) (hq : ∀ i, i < n → (at' l i).1.length ≤ 1048576) (hr : r = okBag l) :
    Calls Try.prog 20 #[.agg #[.slice a n cap]] w fun e w' => e = .returned (.bool r) ∧ Hid (Below w.heap.size w w') := (specOk_any lo hi a n cap l r w ha hh hn hm hq hr).mono fun _ _ h => h
theorem bagOk_h (lo hi : Nat) (a : Option Addr) (n cap : Nat) (l : List It) (r : Bool) (w : World) (ha : BagIn lo hi w a l) (hh : hi ≤ w.heap.size) (hn : l.length = n) (hm : n ≤ 1048576) (hq : ∀ i, i < n → (at' l i).1.length ≤ 1048576) (hr : r = okBag l) :
    Calls Try.prog 21 #[.agg #[.slice a n cap]] w fun e w' => e = .returned (.bool r) ∧ Hid (Below w.heap.size w w') := (bagOk_any lo hi a n cap l r w ha hh hn hm hq hr).mono fun _ _ h => h
theorem sameBag_h (lo hi lo' hi' : Nat) (a a' : Option Addr) (n cap cap' : Nat) (l : List It) (w : World) (ha : BagIn lo hi w a l) (hb : BagIn lo' hi' w a' l) (hh : hi ≤ w.heap.size) (hh' : hi' ≤ w.heap.size) (hn : l.length = n) (hm : n ≤ 1048576) (hr : ∀ i, i < n → (at' l i).1.length ≤ 1048576) :
    Calls Try.prog 22 #[.agg #[.slice a n cap], .agg #[.slice a' n cap']] w fun e w' => e = .returned (.bool true) ∧ Hid (Below w.heap.size w w') := (sameBag_any lo hi lo' hi' a a' n cap cap' l w ha hb hh hh' hn hm hr).mono fun _ _ h => h
theorem txt_back {M : List It} {U : ByteArray} (h : okBag M = true) (hU : U.data.toList = txtTo M M.length) : txtOf M = U := by
  unfold txtOf
  rw [if_pos h, ← hU]
theorem readBackB {L : List It} {t : ByteArray} {n : Nat} (ht : t = txtOf L) (h : okBag L = true) (hn : L.length = n) (w : World) :
    Calls Try.prog 17 #[.string t] w fun e w' => ∃ a cap, e = .returned (.tuple #[.agg #[.slice a n cap], .bool true]) ∧ Hid (BagOwn w.heap.size w'.heap.size w' a L) ∧ Hid (Below w.heap.size w w') := by
  have hd : t.data.toList = txtTo L L.length := by rw [ht]; unfold txtOf; rw [if_pos h]
  have hs : t.size ≤ 1048576 := by
    rw [size_of_list hd]
    have := txt_le h L.length (Nat.le_refl _)
    have := okBag_len h
    omega
  have hb : implRead t.data.toList = (L, true) := by rw [hd]; exact implRead_back h
  refine (readBag_any t w hs).mono ?_
  rintro e w' ⟨v, ok, rfl, h1, h2, h3⟩
  have k1 := h1.out; have k2 := h2.out
  rw [hb] at k1 k2
  dsimp only at k1 k2
  subst k1
  simp only [if_true] at k2
  obtain ⟨a, cap, rfl, ho⟩ := k2
  exact ⟨a, cap, by rw [hn], ho, h3⟩
theorem readSomeB (t : ByteArray) (hs : t.size ≤ 1048576) (w : World) :
    Calls Try.prog 17 #[.string t] w fun e w' => ∃ (a : Option Addr) (n cap : Nat) (ok : Bool), e = .returned (.tuple #[.agg #[.slice a n cap], .bool ok]) ∧ Hid (Below w.heap.size w w') := by
  obtain ⟨ok, L, n, _, _, _, _, _, _, h⟩ := readBoth t hs
  exact (h w).mono fun _ _ ⟨a, cap, h1, _, h3⟩ => ⟨a, n, cap, ok, h1, h3⟩

set_option maxHeartbeats 8000000 in
set_option maxRecDepth 100000 in
theorem law_3 (a0 : Option Addr) (n0 cap0 : Nat) (w : World) (hc0 : CodeIn w a0 n0) :
    Calls Try.prog 3 #[.slice a0 n0 cap0] w fun e w' => e = .returned (.bool true) ∧ Below w.heap.size w w' := by
  by_cases hbig : (1048576 : Int) < (n0 : Int)
  · clear hc0
    go_enter Try.func3, Try.ntmps3
    go_wp2_with fail
    refine (big_yes a0 n0 cap0 w hbig).mono ?_
    rintro e w1 ⟨rfl, rfl⟩
    go_wp2
    go_ret
    exact ⟨rfl, Below.refl _ _⟩
  have hn : n0 ≤ 1048576 := by omega
  have HC : Hid (CodeIn w a0 n0) := hc0
  clear hc0
  go_enter Try.func3, Try.ntmps3
  go_wp2_with fail
  refine (big_no a0 n0 cap0 w hn).mono ?_
  rintro e w1 ⟨rfl, rfl⟩
  have HD_0 : Hid (Hold w w []) := Hold.none w
  go_wp2_with fail
  refine (drawBagText_any _ n0 cap0 a0 hn HC.out).mono ?_
  rintro e w1 ⟨a, n, c, L, rfl, HLN, X_1, B_1⟩
  have HD_2 : Hid (Hold w w1 []) := HD_0.out.below B_1.out
  clear HD_0
  have ZZ3 : Hid (w.heap.size ≤ w1.heap.size) := B_1.out.size
  clear B_1
  have G_4 : Hid (BagIn w.heap.size w1.heap.size w1 a L) := X_1.out
  clear X_1
  have BA_5 : Hid (Below w1.heap.size w1 (w1.alloc (.cells #[.slice a n c] 26))) := below1' w1 _
  have HD_6 : Hid (Hold w (w1.alloc (.cells #[.slice a n c] 26)) [(w1.heap.size, [.slice a n c])]) := HD_2.out.more [.slice a n c] 26
  clear HD_2
  have ZZ7 : Hid ((w1.alloc (.cells #[.slice a n c] 26)).heap.size = w1.heap.size + 1) := by show _ = _; simp
  have ZZ8 : Hid (w1.heap.size ≤ (w1.alloc (.cells #[.slice a n c] 26)).heap.size) := BA_5.out.size
  have G_8 : Hid (BagIn w.heap.size w1.heap.size (w1.alloc (.cells #[.slice a n c] 26)) a L) := G_4.out.below BA_5.out (by have y0 := ZZ3.out; have y1 := ZZ7.out; have y2 := ZZ8.out; omega)
  clear G_4
  clear BA_5
  have hn14 : n ≤ 14 := HLN.out.2.1
  by_cases hok : okBag L = true
  · have HOKK : Hid (okBag L = true) := hok
    clear hok
    have q_9 : (w1.alloc (.cells #[.slice a n c] 26)).cell? ⟨w1.heap.size, 0, none⟩ = some (.slice a n c) := HD_6.out.cell (b := w1.heap.size) (vs := [.slice a n c]) (i := 0) (by simp) (by simp)
    go_wp2_with fail
    refine (bagText_any w.heap.size w1.heap.size a n c L _ G_8.out (by have y0 := ZZ3.out; have y1 := ZZ7.out; have y2 := ZZ8.out; omega) HLN.out.1 (by omega) (fun i hi => by have := HLN.out.2.2 i hi; omega)).mono ?_
    rintro e w2 ⟨t, ok, rfl, HT, B_10⟩
    clear q_9
    have HD_11 : Hid (Hold w w2 [(w1.heap.size, [.slice a n c])]) := HD_6.out.below B_10.out
    clear HD_6
    have ZZ12 : Hid ((w1.alloc (.cells #[.slice a n c] 26)).heap.size ≤ w2.heap.size) := B_10.out.size
    have G_12 : Hid (BagIn w.heap.size w1.heap.size w2 a L) := G_8.out.below B_10.out (by have y0 := ZZ3.out; have y1 := ZZ7.out; have y2 := ZZ8.out; have y3 := ZZ12.out; omega)
    clear G_8
    clear B_10
    obtain rfl : ok = true := HT.out.1.trans HOKK.out
    go_wp2_with fail
    refine (readBackB HT.out.2 HOKK.out HLN.out.1 _).mono ?_
    rintro e w3 ⟨a6, c6, rfl, X_6, B_13⟩
    have HD_14 : Hid (Hold w w3 [(w1.heap.size, [.slice a n c])]) := HD_11.out.below B_13.out
    clear HD_11
    have ZZ15 : Hid (w2.heap.size ≤ w3.heap.size) := B_13.out.size
    have G_15 : Hid (BagIn w.heap.size w1.heap.size w3 a L) := G_12.out.below B_13.out (by have y0 := ZZ3.out; have y1 := ZZ7.out; have y2 := ZZ8.out; have y3 := ZZ12.out; have y4 := ZZ15.out; omega)
    clear G_12
    clear B_13
    have X_16 : Hid (BagOwn w2.heap.size w3.heap.size w3 a6 L) := X_6.out
    clear X_6
    have BA_17 : Hid (Below w3.heap.size w3 (w3.alloc (.cells #[.slice a6 n c6] 26))) := below1' w3 _
    have HD_18 : Hid (Hold w (w3.alloc (.cells #[.slice a6 n c6] 26)) [(w3.heap.size, [.slice a6 n c6]), (w1.heap.size, [.slice a n c])]) := HD_14.out.more [.slice a6 n c6] 26
    clear HD_14
    have ZZ19 : Hid ((w3.alloc (.cells #[.slice a6 n c6] 26)).heap.size = w3.heap.size + 1) := by show _ = _; simp
    have ZZ20 : Hid (w3.heap.size ≤ (w3.alloc (.cells #[.slice a6 n c6] 26)).heap.size) := BA_17.out.size
    have G_20 : Hid (BagIn w.heap.size w1.heap.size (w3.alloc (.cells #[.slice a6 n c6] 26)) a L) := G_15.out.below BA_17.out (by have y0 := ZZ3.out; have y1 := ZZ7.out; have y2 := ZZ8.out; have y3 := ZZ12.out; have y4 := ZZ15.out; have y5 := ZZ19.out; have y6 := ZZ20.out; omega)
    have X_20 : Hid (BagOwn w2.heap.size w3.heap.size (w3.alloc (.cells #[.slice a6 n c6] 26)) a6 L) := X_16.out.below BA_17.out (by have y0 := ZZ3.out; have y1 := ZZ7.out; have y2 := ZZ8.out; have y3 := ZZ12.out; have y4 := ZZ15.out; have y5 := ZZ19.out; have y6 := ZZ20.out; omega)
    clear G_15 X_16
    clear BA_17
    go_wp2_with fail
    refine (drawReadBag_any _ n0 cap0 a0 hn (HC.out.below HD_18.out.bel)).mono ?_
    rintro e w4 ⟨U, rfl, HU, B_21⟩
    have HD_22 : Hid (Hold w w4 [(w3.heap.size, [.slice a6 n c6]), (w1.heap.size, [.slice a n c])]) := HD_18.out.below B_21.out
    clear HD_18
    have ZZ23 : Hid ((w3.alloc (.cells #[.slice a6 n c6] 26)).heap.size ≤ w4.heap.size) := B_21.out.size
    have G_23 : Hid (BagIn w.heap.size w1.heap.size w4 a L) := G_20.out.below B_21.out (by have y0 := ZZ3.out; have y1 := ZZ7.out; have y2 := ZZ8.out; have y3 := ZZ12.out; have y4 := ZZ15.out; have y5 := ZZ19.out; have y6 := ZZ20.out; have y7 := ZZ23.out; omega)
    have X_23 : Hid (BagOwn w2.heap.size w3.heap.size w4 a6 L) := X_20.out.below B_21.out (by have y0 := ZZ3.out; have y1 := ZZ7.out; have y2 := ZZ8.out; have y3 := ZZ12.out; have y4 := ZZ15.out; have y5 := ZZ19.out; have y6 := ZZ20.out; have y7 := ZZ23.out; omega)
    clear G_20 X_20
    clear B_21
    obtain ⟨may, M, m, hML, hM300, hMR, hMO, hMY, hSP, hIM⟩ := readBoth U (by have := HU.out; omega)
    have HML : Hid (M.length = m) := hML
    have HM300 : Hid (m ≤ 300) := hM300
    have HRW : Hid (∀ i, i < m → (at' M i).1.length ≤ 4) := hMR
    have HMO : Hid (okBag M = true) := hMO
    have HMY : Hid (may = true → U.data.toList = txtTo M M.length) := hMY
    have HSP : Hid (∀ w : World, Calls Try.prog 19 #[.string U] w fun e w' => ∃ a cap, e = .returned (.tuple #[.agg #[.slice a m cap], .bool may]) ∧ Hid (BagOwn w.heap.size w'.heap.size w' a M) ∧ Hid (Below w.heap.size w w')) := hSP
    have HIM : Hid (∀ w : World, Calls Try.prog 17 #[.string U] w fun e w' => ∃ a cap, e = .returned (.tuple #[.agg #[.slice a m cap], .bool may]) ∧ Hid (BagOwn w.heap.size w'.heap.size w' a M) ∧ Hid (Below w.heap.size w w')) := hIM
    clear hML hM300 hMR hMO hMY hSP hIM
    rcases Bool.eq_false_or_eq_true may with hmay | hmay
    · subst hmay
      go_wp2_with fail
      refine (HIM.out _).mono ?_
      rintro e w5 ⟨a9, c9, rfl, X_9, B_24⟩
      have HD_25 : Hid (Hold w w5 [(w3.heap.size, [.slice a6 n c6]), (w1.heap.size, [.slice a n c])]) := HD_22.out.below B_24.out
      clear HD_22
      have ZZ26 : Hid (w4.heap.size ≤ w5.heap.size) := B_24.out.size
      have G_26 : Hid (BagIn w.heap.size w1.heap.size w5 a L) := G_23.out.below B_24.out (by have y0 := ZZ3.out; have y1 := ZZ7.out; have y2 := ZZ8.out; have y3 := ZZ12.out; have y4 := ZZ15.out; have y5 := ZZ19.out; have y6 := ZZ20.out; have y7 := ZZ23.out; have y8 := ZZ26.out; omega)
      have X_26 : Hid (BagOwn w2.heap.size w3.heap.size w5 a6 L) := X_23.out.below B_24.out (by have y0 := ZZ3.out; have y1 := ZZ7.out; have y2 := ZZ8.out; have y3 := ZZ12.out; have y4 := ZZ15.out; have y5 := ZZ19.out; have y6 := ZZ20.out; have y7 := ZZ23.out; have y8 := ZZ26.out; omega)
      clear G_23 X_23
      clear B_24
      have Y_27 : Hid (BagOwn w4.heap.size w5.heap.size w5 a9 M) := X_9.out
      clear X_9 HIM
      have BA_28 : Hid (Below w5.heap.size w5 (w5.alloc (.cells #[.slice a9 m c9] 26))) := below1' w5 _
      have HD_29 : Hid (Hold w (w5.alloc (.cells #[.slice a9 m c9] 26)) [(w5.heap.size, [.slice a9 m c9]), (w3.heap.size, [.slice a6 n c6]), (w1.heap.size, [.slice a n c])]) := HD_25.out.more [.slice a9 m c9] 26
      clear HD_25
      have ZZ30 : Hid ((w5.alloc (.cells #[.slice a9 m c9] 26)).heap.size = w5.heap.size + 1) := by show _ = _; simp
      have ZZ31 : Hid (w5.heap.size ≤ (w5.alloc (.cells #[.slice a9 m c9] 26)).heap.size) := BA_28.out.size
      have G_31 : Hid (BagIn w.heap.size w1.heap.size (w5.alloc (.cells #[.slice a9 m c9] 26)) a L) := G_26.out.below BA_28.out (by have y0 := ZZ3.out; have y1 := ZZ7.out; have y2 := ZZ8.out; have y3 := ZZ12.out; have y4 := ZZ15.out; have y5 := ZZ19.out; have y6 := ZZ20.out; have y7 := ZZ23.out; have y8 := ZZ26.out; have y9 := ZZ30.out; have y10 := ZZ31.out; omega)
      have X_31 : Hid (BagOwn w2.heap.size w3.heap.size (w5.alloc (.cells #[.slice a9 m c9] 26)) a6 L) := X_26.out.below BA_28.out (by have y0 := ZZ3.out; have y1 := ZZ7.out; have y2 := ZZ8.out; have y3 := ZZ12.out; have y4 := ZZ15.out; have y5 := ZZ19.out; have y6 := ZZ20.out; have y7 := ZZ23.out; have y8 := ZZ26.out; have y9 := ZZ30.out; have y10 := ZZ31.out; omega)
      have Y_31 : Hid (BagOwn w4.heap.size w5.heap.size (w5.alloc (.cells #[.slice a9 m c9] 26)) a9 M) := Y_27.out.below BA_28.out (by have y0 := ZZ3.out; have y1 := ZZ7.out; have y2 := ZZ8.out; have y3 := ZZ12.out; have y4 := ZZ15.out; have y5 := ZZ19.out; have y6 := ZZ20.out; have y7 := ZZ23.out; have y8 := ZZ26.out; have y9 := ZZ30.out; have y10 := ZZ31.out; omega)
      clear G_26 X_26 Y_27
      clear BA_28
      go_wp2_with fail
      refine (HSP.out _).mono ?_
      rintro e w6 ⟨a11, c11, rfl, X_11, B_32⟩
      have HD_33 : Hid (Hold w w6 [(w5.heap.size, [.slice a9 m c9]), (w3.heap.size, [.slice a6 n c6]), (w1.heap.size, [.slice a n c])]) := HD_29.out.below B_32.out
      clear HD_29
      have ZZ34 : Hid ((w5.alloc (.cells #[.slice a9 m c9] 26)).heap.size ≤ w6.heap.size) := B_32.out.size
      have G_34 : Hid (BagIn w.heap.size w1.heap.size w6 a L) := G_31.out.below B_32.out (by have y0 := ZZ3.out; have y1 := ZZ7.out; have y2 := ZZ8.out; have y3 := ZZ12.out; have y4 := ZZ15.out; have y5 := ZZ19.out; have y6 := ZZ20.out; have y7 := ZZ23.out; have y8 := ZZ26.out; have y9 := ZZ30.out; have y10 := ZZ31.out; have y11 := ZZ34.out; omega)
      have X_34 : Hid (BagOwn w2.heap.size w3.heap.size w6 a6 L) := X_31.out.below B_32.out (by have y0 := ZZ3.out; have y1 := ZZ7.out; have y2 := ZZ8.out; have y3 := ZZ12.out; have y4 := ZZ15.out; have y5 := ZZ19.out; have y6 := ZZ20.out; have y7 := ZZ23.out; have y8 := ZZ26.out; have y9 := ZZ30.out; have y10 := ZZ31.out; have y11 := ZZ34.out; omega)
      have Y_34 : Hid (BagOwn w4.heap.size w5.heap.size w6 a9 M) := Y_31.out.below B_32.out (by have y0 := ZZ3.out; have y1 := ZZ7.out; have y2 := ZZ8.out; have y3 := ZZ12.out; have y4 := ZZ15.out; have y5 := ZZ19.out; have y6 := ZZ20.out; have y7 := ZZ23.out; have y8 := ZZ26.out; have y9 := ZZ30.out; have y10 := ZZ31.out; have y11 := ZZ34.out; omega)
      clear G_31 X_31 Y_31
      clear B_32
      clear X_11 HSP
      have BA_35 : Hid (Below w6.heap.size w6 (w6.alloc (.cells #[.slice a11 m c11] 26))) := below1' w6 _
      have HD_36 : Hid (Hold w (w6.alloc (.cells #[.slice a11 m c11] 26)) [(w6.heap.size, [.slice a11 m c11]), (w5.heap.size, [.slice a9 m c9]), (w3.heap.size, [.slice a6 n c6]), (w1.heap.size, [.slice a n c])]) := HD_33.out.more [.slice a11 m c11] 26
      clear HD_33
      have ZZ37 : Hid ((w6.alloc (.cells #[.slice a11 m c11] 26)).heap.size = w6.heap.size + 1) := by show _ = _; simp
      have ZZ38 : Hid (w6.heap.size ≤ (w6.alloc (.cells #[.slice a11 m c11] 26)).heap.size) := BA_35.out.size
      have G_38 : Hid (BagIn w.heap.size w1.heap.size (w6.alloc (.cells #[.slice a11 m c11] 26)) a L) := G_34.out.below BA_35.out (by have y0 := ZZ3.out; have y1 := ZZ7.out; have y2 := ZZ8.out; have y3 := ZZ12.out; have y4 := ZZ15.out; have y5 := ZZ19.out; have y6 := ZZ20.out; have y7 := ZZ23.out; have y8 := ZZ26.out; have y9 := ZZ30.out; have y10 := ZZ31.out; have y11 := ZZ34.out; have y12 := ZZ37.out; have y13 := ZZ38.out; omega)
      have X_38 : Hid (BagOwn w2.heap.size w3.heap.size (w6.alloc (.cells #[.slice a11 m c11] 26)) a6 L) := X_34.out.below BA_35.out (by have y0 := ZZ3.out; have y1 := ZZ7.out; have y2 := ZZ8.out; have y3 := ZZ12.out; have y4 := ZZ15.out; have y5 := ZZ19.out; have y6 := ZZ20.out; have y7 := ZZ23.out; have y8 := ZZ26.out; have y9 := ZZ30.out; have y10 := ZZ31.out; have y11 := ZZ34.out; have y12 := ZZ37.out; have y13 := ZZ38.out; omega)
      have Y_38 : Hid (BagOwn w4.heap.size w5.heap.size (w6.alloc (.cells #[.slice a11 m c11] 26)) a9 M) := Y_34.out.below BA_35.out (by have y0 := ZZ3.out; have y1 := ZZ7.out; have y2 := ZZ8.out; have y3 := ZZ12.out; have y4 := ZZ15.out; have y5 := ZZ19.out; have y6 := ZZ20.out; have y7 := ZZ23.out; have y8 := ZZ26.out; have y9 := ZZ30.out; have y10 := ZZ31.out; have y11 := ZZ34.out; have y12 := ZZ37.out; have y13 := ZZ38.out; omega)
      clear G_34 X_34 Y_34
      clear BA_35
      have q_39 : (w6.alloc (.cells #[.slice a11 m c11] 26)).cell? ⟨w5.heap.size, 0, none⟩ = some (.slice a9 m c9) := HD_36.out.cell (b := w5.heap.size) (vs := [.slice a9 m c9]) (i := 0) (by simp) (by simp)
      go_wp2_with fail
      refine (bagText_any w4.heap.size w5.heap.size a9 m c9 M _ Y_38.out.toIn (by have y0 := ZZ3.out; have y1 := ZZ7.out; have y2 := ZZ8.out; have y3 := ZZ12.out; have y4 := ZZ15.out; have y5 := ZZ19.out; have y6 := ZZ20.out; have y7 := ZZ23.out; have y8 := ZZ26.out; have y9 := ZZ30.out; have y10 := ZZ31.out; have y11 := ZZ34.out; have y12 := ZZ37.out; have y13 := ZZ38.out; omega) HML.out (by have := HM300.out; omega) (fun i hi => by have := HRW.out i hi; omega)).mono ?_
      rintro e w7 ⟨t13, ok13, rfl, HT13, B_40⟩
      clear q_39
      have HD_41 : Hid (Hold w w7 [(w6.heap.size, [.slice a11 m c11]), (w5.heap.size, [.slice a9 m c9]), (w3.heap.size, [.slice a6 n c6]), (w1.heap.size, [.slice a n c])]) := HD_36.out.below B_40.out
      clear HD_36
      have ZZ42 : Hid ((w6.alloc (.cells #[.slice a11 m c11] 26)).heap.size ≤ w7.heap.size) := B_40.out.size
      have G_42 : Hid (BagIn w.heap.size w1.heap.size w7 a L) := G_38.out.below B_40.out (by have y0 := ZZ3.out; have y1 := ZZ7.out; have y2 := ZZ8.out; have y3 := ZZ12.out; have y4 := ZZ15.out; have y5 := ZZ19.out; have y6 := ZZ20.out; have y7 := ZZ23.out; have y8 := ZZ26.out; have y9 := ZZ30.out; have y10 := ZZ31.out; have y11 := ZZ34.out; have y12 := ZZ37.out; have y13 := ZZ38.out; have y14 := ZZ42.out; omega)
      have X_42 : Hid (BagOwn w2.heap.size w3.heap.size w7 a6 L) := X_38.out.below B_40.out (by have y0 := ZZ3.out; have y1 := ZZ7.out; have y2 := ZZ8.out; have y3 := ZZ12.out; have y4 := ZZ15.out; have y5 := ZZ19.out; have y6 := ZZ20.out; have y7 := ZZ23.out; have y8 := ZZ26.out; have y9 := ZZ30.out; have y10 := ZZ31.out; have y11 := ZZ34.out; have y12 := ZZ37.out; have y13 := ZZ38.out; have y14 := ZZ42.out; omega)
      have Y_42 : Hid (BagOwn w4.heap.size w5.heap.size w7 a9 M) := Y_38.out.below B_40.out (by have y0 := ZZ3.out; have y1 := ZZ7.out; have y2 := ZZ8.out; have y3 := ZZ12.out; have y4 := ZZ15.out; have y5 := ZZ19.out; have y6 := ZZ20.out; have y7 := ZZ23.out; have y8 := ZZ26.out; have y9 := ZZ30.out; have y10 := ZZ31.out; have y11 := ZZ34.out; have y12 := ZZ37.out; have y13 := ZZ38.out; have y14 := ZZ42.out; omega)
      clear G_38 X_38 Y_38
      clear B_40
      clear Y_42
      obtain rfl : t13 = U := HT13.out.2.trans (txt_back HMO.out (HMY.out (by simp)))
      have q_43 : w7.cell? ⟨w1.heap.size, 0, none⟩ = some (.slice a n c) := HD_41.out.cell (b := w1.heap.size) (vs := [.slice a n c]) (i := 0) (by simp) (by simp)
      go_wp2_with fail
      refine (specOk_h w.heap.size w1.heap.size a n c L true _ G_42.out (by have y0 := ZZ3.out; have y1 := ZZ7.out; have y2 := ZZ8.out; have y3 := ZZ12.out; have y4 := ZZ15.out; have y5 := ZZ19.out; have y6 := ZZ20.out; have y7 := ZZ23.out; have y8 := ZZ26.out; have y9 := ZZ30.out; have y10 := ZZ31.out; have y11 := ZZ34.out; have y12 := ZZ37.out; have y13 := ZZ38.out; have y14 := ZZ42.out; omega) HLN.out.1 (by omega) (fun i hi => by have := HLN.out.2.2 i hi; omega) HOKK.out.symm).mono ?_
      rintro e w8 ⟨rfl, B_44⟩
      clear q_43
      have HD_45 : Hid (Hold w w8 [(w6.heap.size, [.slice a11 m c11]), (w5.heap.size, [.slice a9 m c9]), (w3.heap.size, [.slice a6 n c6]), (w1.heap.size, [.slice a n c])]) := HD_41.out.below B_44.out
      clear HD_41
      have ZZ46 : Hid (w7.heap.size ≤ w8.heap.size) := B_44.out.size
      have G_46 : Hid (BagIn w.heap.size w1.heap.size w8 a L) := G_42.out.below B_44.out (by have y0 := ZZ3.out; have y1 := ZZ7.out; have y2 := ZZ8.out; have y3 := ZZ12.out; have y4 := ZZ15.out; have y5 := ZZ19.out; have y6 := ZZ20.out; have y7 := ZZ23.out; have y8 := ZZ26.out; have y9 := ZZ30.out; have y10 := ZZ31.out; have y11 := ZZ34.out; have y12 := ZZ37.out; have y13 := ZZ38.out; have y14 := ZZ42.out; have y15 := ZZ46.out; omega)
      have X_46 : Hid (BagOwn w2.heap.size w3.heap.size w8 a6 L) := X_42.out.below B_44.out (by have y0 := ZZ3.out; have y1 := ZZ7.out; have y2 := ZZ8.out; have y3 := ZZ12.out; have y4 := ZZ15.out; have y5 := ZZ19.out; have y6 := ZZ20.out; have y7 := ZZ23.out; have y8 := ZZ26.out; have y9 := ZZ30.out; have y10 := ZZ31.out; have y11 := ZZ34.out; have y12 := ZZ37.out; have y13 := ZZ38.out; have y14 := ZZ42.out; have y15 := ZZ46.out; omega)
      clear G_42 X_42
      clear B_44
      have q_47 : w8.cell? ⟨w1.heap.size, 0, none⟩ = some (.slice a n c) := HD_45.out.cell (b := w1.heap.size) (vs := [.slice a n c]) (i := 0) (by simp) (by simp)
      go_wp2_with fail
      refine (bagOk_h w.heap.size w1.heap.size a n c L true _ G_46.out (by have y0 := ZZ3.out; have y1 := ZZ7.out; have y2 := ZZ8.out; have y3 := ZZ12.out; have y4 := ZZ15.out; have y5 := ZZ19.out; have y6 := ZZ20.out; have y7 := ZZ23.out; have y8 := ZZ26.out; have y9 := ZZ30.out; have y10 := ZZ31.out; have y11 := ZZ34.out; have y12 := ZZ37.out; have y13 := ZZ38.out; have y14 := ZZ42.out; have y15 := ZZ46.out; omega) HLN.out.1 (by omega) (fun i hi => by have := HLN.out.2.2 i hi; omega) HOKK.out.symm).mono ?_
      rintro e w9 ⟨rfl, B_48⟩
      clear q_47
      have HD_49 : Hid (Hold w w9 [(w6.heap.size, [.slice a11 m c11]), (w5.heap.size, [.slice a9 m c9]), (w3.heap.size, [.slice a6 n c6]), (w1.heap.size, [.slice a n c])]) := HD_45.out.below B_48.out
      clear HD_45
      have ZZ50 : Hid (w8.heap.size ≤ w9.heap.size) := B_48.out.size
      have G_50 : Hid (BagIn w.heap.size w1.heap.size w9 a L) := G_46.out.below B_48.out (by have y0 := ZZ3.out; have y1 := ZZ7.out; have y2 := ZZ8.out; have y3 := ZZ12.out; have y4 := ZZ15.out; have y5 := ZZ19.out; have y6 := ZZ20.out; have y7 := ZZ23.out; have y8 := ZZ26.out; have y9 := ZZ30.out; have y10 := ZZ31.out; have y11 := ZZ34.out; have y12 := ZZ37.out; have y13 := ZZ38.out; have y14 := ZZ42.out; have y15 := ZZ46.out; have y16 := ZZ50.out; omega)
      have X_50 : Hid (BagOwn w2.heap.size w3.heap.size w9 a6 L) := X_46.out.below B_48.out (by have y0 := ZZ3.out; have y1 := ZZ7.out; have y2 := ZZ8.out; have y3 := ZZ12.out; have y4 := ZZ15.out; have y5 := ZZ19.out; have y6 := ZZ20.out; have y7 := ZZ23.out; have y8 := ZZ26.out; have y9 := ZZ30.out; have y10 := ZZ31.out; have y11 := ZZ34.out; have y12 := ZZ37.out; have y13 := ZZ38.out; have y14 := ZZ42.out; have y15 := ZZ46.out; have y16 := ZZ50.out; omega)
      clear G_46 X_46
      clear B_48
      have q_51 : w9.cell? ⟨w3.heap.size, 0, none⟩ = some (.slice a6 n c6) := HD_49.out.cell (b := w3.heap.size) (vs := [.slice a6 n c6]) (i := 0) (by simp) (by simp)
      have q_52 : w9.cell? ⟨w1.heap.size, 0, none⟩ = some (.slice a n c) := HD_49.out.cell (b := w1.heap.size) (vs := [.slice a n c]) (i := 0) (by simp) (by simp)
      go_wp2_with fail
      refine (sameBag_h w2.heap.size w3.heap.size w.heap.size w1.heap.size a6 a n c6 c L _ X_50.out.toIn G_50.out (by have y0 := ZZ3.out; have y1 := ZZ7.out; have y2 := ZZ8.out; have y3 := ZZ12.out; have y4 := ZZ15.out; have y5 := ZZ19.out; have y6 := ZZ20.out; have y7 := ZZ23.out; have y8 := ZZ26.out; have y9 := ZZ30.out; have y10 := ZZ31.out; have y11 := ZZ34.out; have y12 := ZZ37.out; have y13 := ZZ38.out; have y14 := ZZ42.out; have y15 := ZZ46.out; have y16 := ZZ50.out; omega) (by have y0 := ZZ3.out; have y1 := ZZ7.out; have y2 := ZZ8.out; have y3 := ZZ12.out; have y4 := ZZ15.out; have y5 := ZZ19.out; have y6 := ZZ20.out; have y7 := ZZ23.out; have y8 := ZZ26.out; have y9 := ZZ30.out; have y10 := ZZ31.out; have y11 := ZZ34.out; have y12 := ZZ37.out; have y13 := ZZ38.out; have y14 := ZZ42.out; have y15 := ZZ46.out; have y16 := ZZ50.out; omega) HLN.out.1 (by omega) (fun i hi => by have := HLN.out.2.2 i hi; omega)).mono ?_
      rintro e w10 ⟨rfl, B_53⟩
      clear q_51 q_52
      have HD_54 : Hid (Hold w w10 [(w6.heap.size, [.slice a11 m c11]), (w5.heap.size, [.slice a9 m c9]), (w3.heap.size, [.slice a6 n c6]), (w1.heap.size, [.slice a n c])]) := HD_49.out.below B_53.out
      clear HD_49
      have ZZ55 : Hid (w9.heap.size ≤ w10.heap.size) := B_53.out.size
      have G_55 : Hid (BagIn w.heap.size w1.heap.size w10 a L) := G_50.out.below B_53.out (by have y0 := ZZ3.out; have y1 := ZZ7.out; have y2 := ZZ8.out; have y3 := ZZ12.out; have y4 := ZZ15.out; have y5 := ZZ19.out; have y6 := ZZ20.out; have y7 := ZZ23.out; have y8 := ZZ26.out; have y9 := ZZ30.out; have y10 := ZZ31.out; have y11 := ZZ34.out; have y12 := ZZ37.out; have y13 := ZZ38.out; have y14 := ZZ42.out; have y15 := ZZ46.out; have y16 := ZZ50.out; have y17 := ZZ55.out; omega)
      have X_55 : Hid (BagOwn w2.heap.size w3.heap.size w10 a6 L) := X_50.out.below B_53.out (by have y0 := ZZ3.out; have y1 := ZZ7.out; have y2 := ZZ8.out; have y3 := ZZ12.out; have y4 := ZZ15.out; have y5 := ZZ19.out; have y6 := ZZ20.out; have y7 := ZZ23.out; have y8 := ZZ26.out; have y9 := ZZ30.out; have y10 := ZZ31.out; have y11 := ZZ34.out; have y12 := ZZ37.out; have y13 := ZZ38.out; have y14 := ZZ42.out; have y15 := ZZ46.out; have y16 := ZZ50.out; have y17 := ZZ55.out; omega)
      clear G_50 X_50
      clear B_53
      go_wp2
      go_ret
      exact ⟨rfl, HD_54.out.bel⟩
    · subst hmay
      go_wp2_with fail
      refine (HIM.out _).mono ?_
      rintro e w5 ⟨a9, c9, rfl, X_9, B_24⟩
      have HD_25 : Hid (Hold w w5 [(w3.heap.size, [.slice a6 n c6]), (w1.heap.size, [.slice a n c])]) := HD_22.out.below B_24.out
      clear HD_22
      have ZZ26 : Hid (w4.heap.size ≤ w5.heap.size) := B_24.out.size
      have G_26 : Hid (BagIn w.heap.size w1.heap.size w5 a L) := G_23.out.below B_24.out (by have y0 := ZZ3.out; have y1 := ZZ7.out; have y2 := ZZ8.out; have y3 := ZZ12.out; have y4 := ZZ15.out; have y5 := ZZ19.out; have y6 := ZZ20.out; have y7 := ZZ23.out; have y8 := ZZ26.out; omega)
      have X_26 : Hid (BagOwn w2.heap.size w3.heap.size w5 a6 L) := X_23.out.below B_24.out (by have y0 := ZZ3.out; have y1 := ZZ7.out; have y2 := ZZ8.out; have y3 := ZZ12.out; have y4 := ZZ15.out; have y5 := ZZ19.out; have y6 := ZZ20.out; have y7 := ZZ23.out; have y8 := ZZ26.out; omega)
      clear G_23 X_23
      clear B_24
      have Y_27 : Hid (BagOwn w4.heap.size w5.heap.size w5 a9 M) := X_9.out
      clear X_9 HIM
      have BA_28 : Hid (Below w5.heap.size w5 (w5.alloc (.cells #[.slice a9 m c9] 26))) := below1' w5 _
      have HD_29 : Hid (Hold w (w5.alloc (.cells #[.slice a9 m c9] 26)) [(w5.heap.size, [.slice a9 m c9]), (w3.heap.size, [.slice a6 n c6]), (w1.heap.size, [.slice a n c])]) := HD_25.out.more [.slice a9 m c9] 26
      clear HD_25
      have ZZ30 : Hid ((w5.alloc (.cells #[.slice a9 m c9] 26)).heap.size = w5.heap.size + 1) := by show _ = _; simp
      have ZZ31 : Hid (w5.heap.size ≤ (w5.alloc (.cells #[.slice a9 m c9] 26)).heap.size) := BA_28.out.size
      have G_31 : Hid (BagIn w.heap.size w1.heap.size (w5.alloc (.cells #[.slice a9 m c9] 26)) a L) := G_26.out.below BA_28.out (by have y0 := ZZ3.out; have y1 := ZZ7.out; have y2 := ZZ8.out; have y3 := ZZ12.out; have y4 := ZZ15.out; have y5 := ZZ19.out; have y6 := ZZ20.out; have y7 := ZZ23.out; have y8 := ZZ26.out; have y9 := ZZ30.out; have y10 := ZZ31.out; omega)
      have X_31 : Hid (BagOwn w2.heap.size w3.heap.size (w5.alloc (.cells #[.slice a9 m c9] 26)) a6 L) := X_26.out.below BA_28.out (by have y0 := ZZ3.out; have y1 := ZZ7.out; have y2 := ZZ8.out; have y3 := ZZ12.out; have y4 := ZZ15.out; have y5 := ZZ19.out; have y6 := ZZ20.out; have y7 := ZZ23.out; have y8 := ZZ26.out; have y9 := ZZ30.out; have y10 := ZZ31.out; omega)
      have Y_31 : Hid (BagOwn w4.heap.size w5.heap.size (w5.alloc (.cells #[.slice a9 m c9] 26)) a9 M) := Y_27.out.below BA_28.out (by have y0 := ZZ3.out; have y1 := ZZ7.out; have y2 := ZZ8.out; have y3 := ZZ12.out; have y4 := ZZ15.out; have y5 := ZZ19.out; have y6 := ZZ20.out; have y7 := ZZ23.out; have y8 := ZZ26.out; have y9 := ZZ30.out; have y10 := ZZ31.out; omega)
      clear G_26 X_26 Y_27
      clear BA_28
      go_wp2_with fail
      refine (HSP.out _).mono ?_
      rintro e w6 ⟨a11, c11, rfl, X_11, B_32⟩
      have HD_33 : Hid (Hold w w6 [(w5.heap.size, [.slice a9 m c9]), (w3.heap.size, [.slice a6 n c6]), (w1.heap.size, [.slice a n c])]) := HD_29.out.below B_32.out
      clear HD_29
      have ZZ34 : Hid ((w5.alloc (.cells #[.slice a9 m c9] 26)).heap.size ≤ w6.heap.size) := B_32.out.size
      have G_34 : Hid (BagIn w.heap.size w1.heap.size w6 a L) := G_31.out.below B_32.out (by have y0 := ZZ3.out; have y1 := ZZ7.out; have y2 := ZZ8.out; have y3 := ZZ12.out; have y4 := ZZ15.out; have y5 := ZZ19.out; have y6 := ZZ20.out; have y7 := ZZ23.out; have y8 := ZZ26.out; have y9 := ZZ30.out; have y10 := ZZ31.out; have y11 := ZZ34.out; omega)
      have X_34 : Hid (BagOwn w2.heap.size w3.heap.size w6 a6 L) := X_31.out.below B_32.out (by have y0 := ZZ3.out; have y1 := ZZ7.out; have y2 := ZZ8.out; have y3 := ZZ12.out; have y4 := ZZ15.out; have y5 := ZZ19.out; have y6 := ZZ20.out; have y7 := ZZ23.out; have y8 := ZZ26.out; have y9 := ZZ30.out; have y10 := ZZ31.out; have y11 := ZZ34.out; omega)
      have Y_34 : Hid (BagOwn w4.heap.size w5.heap.size w6 a9 M) := Y_31.out.below B_32.out (by have y0 := ZZ3.out; have y1 := ZZ7.out; have y2 := ZZ8.out; have y3 := ZZ12.out; have y4 := ZZ15.out; have y5 := ZZ19.out; have y6 := ZZ20.out; have y7 := ZZ23.out; have y8 := ZZ26.out; have y9 := ZZ30.out; have y10 := ZZ31.out; have y11 := ZZ34.out; omega)
      clear G_31 X_31 Y_31
      clear B_32
      clear X_11 HSP
      have BA_35 : Hid (Below w6.heap.size w6 (w6.alloc (.cells #[.slice a11 m c11] 26))) := below1' w6 _
      have HD_36 : Hid (Hold w (w6.alloc (.cells #[.slice a11 m c11] 26)) [(w6.heap.size, [.slice a11 m c11]), (w5.heap.size, [.slice a9 m c9]), (w3.heap.size, [.slice a6 n c6]), (w1.heap.size, [.slice a n c])]) := HD_33.out.more [.slice a11 m c11] 26
      clear HD_33
      have ZZ37 : Hid ((w6.alloc (.cells #[.slice a11 m c11] 26)).heap.size = w6.heap.size + 1) := by show _ = _; simp
      have ZZ38 : Hid (w6.heap.size ≤ (w6.alloc (.cells #[.slice a11 m c11] 26)).heap.size) := BA_35.out.size
      have G_38 : Hid (BagIn w.heap.size w1.heap.size (w6.alloc (.cells #[.slice a11 m c11] 26)) a L) := G_34.out.below BA_35.out (by have y0 := ZZ3.out; have y1 := ZZ7.out; have y2 := ZZ8.out; have y3 := ZZ12.out; have y4 := ZZ15.out; have y5 := ZZ19.out; have y6 := ZZ20.out; have y7 := ZZ23.out; have y8 := ZZ26.out; have y9 := ZZ30.out; have y10 := ZZ31.out; have y11 := ZZ34.out; have y12 := ZZ37.out; have y13 := ZZ38.out; omega)
      have X_38 : Hid (BagOwn w2.heap.size w3.heap.size (w6.alloc (.cells #[.slice a11 m c11] 26)) a6 L) := X_34.out.below BA_35.out (by have y0 := ZZ3.out; have y1 := ZZ7.out; have y2 := ZZ8.out; have y3 := ZZ12.out; have y4 := ZZ15.out; have y5 := ZZ19.out; have y6 := ZZ20.out; have y7 := ZZ23.out; have y8 := ZZ26.out; have y9 := ZZ30.out; have y10 := ZZ31.out; have y11 := ZZ34.out; have y12 := ZZ37.out; have y13 := ZZ38.out; omega)
      have Y_38 : Hid (BagOwn w4.heap.size w5.heap.size (w6.alloc (.cells #[.slice a11 m c11] 26)) a9 M) := Y_34.out.below BA_35.out (by have y0 := ZZ3.out; have y1 := ZZ7.out; have y2 := ZZ8.out; have y3 := ZZ12.out; have y4 := ZZ15.out; have y5 := ZZ19.out; have y6 := ZZ20.out; have y7 := ZZ23.out; have y8 := ZZ26.out; have y9 := ZZ30.out; have y10 := ZZ31.out; have y11 := ZZ34.out; have y12 := ZZ37.out; have y13 := ZZ38.out; omega)
      clear G_34 X_34 Y_34
      clear BA_35
      have q_39 : (w6.alloc (.cells #[.slice a11 m c11] 26)).cell? ⟨w5.heap.size, 0, none⟩ = some (.slice a9 m c9) := HD_36.out.cell (b := w5.heap.size) (vs := [.slice a9 m c9]) (i := 0) (by simp) (by simp)
      go_wp2_with fail
      refine (bagText_any w4.heap.size w5.heap.size a9 m c9 M _ Y_38.out.toIn (by have y0 := ZZ3.out; have y1 := ZZ7.out; have y2 := ZZ8.out; have y3 := ZZ12.out; have y4 := ZZ15.out; have y5 := ZZ19.out; have y6 := ZZ20.out; have y7 := ZZ23.out; have y8 := ZZ26.out; have y9 := ZZ30.out; have y10 := ZZ31.out; have y11 := ZZ34.out; have y12 := ZZ37.out; have y13 := ZZ38.out; omega) HML.out (by have := HM300.out; omega) (fun i hi => by have := HRW.out i hi; omega)).mono ?_
      rintro e w7 ⟨t13, ok13, rfl, HT13, B_40⟩
      clear q_39
      have HD_41 : Hid (Hold w w7 [(w6.heap.size, [.slice a11 m c11]), (w5.heap.size, [.slice a9 m c9]), (w3.heap.size, [.slice a6 n c6]), (w1.heap.size, [.slice a n c])]) := HD_36.out.below B_40.out
      clear HD_36
      have ZZ42 : Hid ((w6.alloc (.cells #[.slice a11 m c11] 26)).heap.size ≤ w7.heap.size) := B_40.out.size
      have G_42 : Hid (BagIn w.heap.size w1.heap.size w7 a L) := G_38.out.below B_40.out (by have y0 := ZZ3.out; have y1 := ZZ7.out; have y2 := ZZ8.out; have y3 := ZZ12.out; have y4 := ZZ15.out; have y5 := ZZ19.out; have y6 := ZZ20.out; have y7 := ZZ23.out; have y8 := ZZ26.out; have y9 := ZZ30.out; have y10 := ZZ31.out; have y11 := ZZ34.out; have y12 := ZZ37.out; have y13 := ZZ38.out; have y14 := ZZ42.out; omega)
      have X_42 : Hid (BagOwn w2.heap.size w3.heap.size w7 a6 L) := X_38.out.below B_40.out (by have y0 := ZZ3.out; have y1 := ZZ7.out; have y2 := ZZ8.out; have y3 := ZZ12.out; have y4 := ZZ15.out; have y5 := ZZ19.out; have y6 := ZZ20.out; have y7 := ZZ23.out; have y8 := ZZ26.out; have y9 := ZZ30.out; have y10 := ZZ31.out; have y11 := ZZ34.out; have y12 := ZZ37.out; have y13 := ZZ38.out; have y14 := ZZ42.out; omega)
      have Y_42 : Hid (BagOwn w4.heap.size w5.heap.size w7 a9 M) := Y_38.out.below B_40.out (by have y0 := ZZ3.out; have y1 := ZZ7.out; have y2 := ZZ8.out; have y3 := ZZ12.out; have y4 := ZZ15.out; have y5 := ZZ19.out; have y6 := ZZ20.out; have y7 := ZZ23.out; have y8 := ZZ26.out; have y9 := ZZ30.out; have y10 := ZZ31.out; have y11 := ZZ34.out; have y12 := ZZ37.out; have y13 := ZZ38.out; have y14 := ZZ42.out; omega)
      clear G_38 X_38 Y_38
      clear B_40
      clear Y_42
      have q_43 : w7.cell? ⟨w1.heap.size, 0, none⟩ = some (.slice a n c) := HD_41.out.cell (b := w1.heap.size) (vs := [.slice a n c]) (i := 0) (by simp) (by simp)
      go_wp2_with fail
      refine (specOk_h w.heap.size w1.heap.size a n c L true _ G_42.out (by have y0 := ZZ3.out; have y1 := ZZ7.out; have y2 := ZZ8.out; have y3 := ZZ12.out; have y4 := ZZ15.out; have y5 := ZZ19.out; have y6 := ZZ20.out; have y7 := ZZ23.out; have y8 := ZZ26.out; have y9 := ZZ30.out; have y10 := ZZ31.out; have y11 := ZZ34.out; have y12 := ZZ37.out; have y13 := ZZ38.out; have y14 := ZZ42.out; omega) HLN.out.1 (by omega) (fun i hi => by have := HLN.out.2.2 i hi; omega) HOKK.out.symm).mono ?_
      rintro e w8 ⟨rfl, B_44⟩
      clear q_43
      have HD_45 : Hid (Hold w w8 [(w6.heap.size, [.slice a11 m c11]), (w5.heap.size, [.slice a9 m c9]), (w3.heap.size, [.slice a6 n c6]), (w1.heap.size, [.slice a n c])]) := HD_41.out.below B_44.out
      clear HD_41
      have ZZ46 : Hid (w7.heap.size ≤ w8.heap.size) := B_44.out.size
      have G_46 : Hid (BagIn w.heap.size w1.heap.size w8 a L) := G_42.out.below B_44.out (by have y0 := ZZ3.out; have y1 := ZZ7.out; have y2 := ZZ8.out; have y3 := ZZ12.out; have y4 := ZZ15.out; have y5 := ZZ19.out; have y6 := ZZ20.out; have y7 := ZZ23.out; have y8 := ZZ26.out; have y9 := ZZ30.out; have y10 := ZZ31.out; have y11 := ZZ34.out; have y12 := ZZ37.out; have y13 := ZZ38.out; have y14 := ZZ42.out; have y15 := ZZ46.out; omega)
      have X_46 : Hid (BagOwn w2.heap.size w3.heap.size w8 a6 L) := X_42.out.below B_44.out (by have y0 := ZZ3.out; have y1 := ZZ7.out; have y2 := ZZ8.out; have y3 := ZZ12.out; have y4 := ZZ15.out; have y5 := ZZ19.out; have y6 := ZZ20.out; have y7 := ZZ23.out; have y8 := ZZ26.out; have y9 := ZZ30.out; have y10 := ZZ31.out; have y11 := ZZ34.out; have y12 := ZZ37.out; have y13 := ZZ38.out; have y14 := ZZ42.out; have y15 := ZZ46.out; omega)
      clear G_42 X_42
      clear B_44
      have q_47 : w8.cell? ⟨w1.heap.size, 0, none⟩ = some (.slice a n c) := HD_45.out.cell (b := w1.heap.size) (vs := [.slice a n c]) (i := 0) (by simp) (by simp)
      go_wp2_with fail
      refine (bagOk_h w.heap.size w1.heap.size a n c L true _ G_46.out (by have y0 := ZZ3.out; have y1 := ZZ7.out; have y2 := ZZ8.out; have y3 := ZZ12.out; have y4 := ZZ15.out; have y5 := ZZ19.out; have y6 := ZZ20.out; have y7 := ZZ23.out; have y8 := ZZ26.out; have y9 := ZZ30.out; have y10 := ZZ31.out; have y11 := ZZ34.out; have y12 := ZZ37.out; have y13 := ZZ38.out; have y14 := ZZ42.out; have y15 := ZZ46.out; omega) HLN.out.1 (by omega) (fun i hi => by have := HLN.out.2.2 i hi; omega) HOKK.out.symm).mono ?_
      rintro e w9 ⟨rfl, B_48⟩
      clear q_47
      have HD_49 : Hid (Hold w w9 [(w6.heap.size, [.slice a11 m c11]), (w5.heap.size, [.slice a9 m c9]), (w3.heap.size, [.slice a6 n c6]), (w1.heap.size, [.slice a n c])]) := HD_45.out.below B_48.out
      clear HD_45
      have ZZ50 : Hid (w8.heap.size ≤ w9.heap.size) := B_48.out.size
      have G_50 : Hid (BagIn w.heap.size w1.heap.size w9 a L) := G_46.out.below B_48.out (by have y0 := ZZ3.out; have y1 := ZZ7.out; have y2 := ZZ8.out; have y3 := ZZ12.out; have y4 := ZZ15.out; have y5 := ZZ19.out; have y6 := ZZ20.out; have y7 := ZZ23.out; have y8 := ZZ26.out; have y9 := ZZ30.out; have y10 := ZZ31.out; have y11 := ZZ34.out; have y12 := ZZ37.out; have y13 := ZZ38.out; have y14 := ZZ42.out; have y15 := ZZ46.out; have y16 := ZZ50.out; omega)
      have X_50 : Hid (BagOwn w2.heap.size w3.heap.size w9 a6 L) := X_46.out.below B_48.out (by have y0 := ZZ3.out; have y1 := ZZ7.out; have y2 := ZZ8.out; have y3 := ZZ12.out; have y4 := ZZ15.out; have y5 := ZZ19.out; have y6 := ZZ20.out; have y7 := ZZ23.out; have y8 := ZZ26.out; have y9 := ZZ30.out; have y10 := ZZ31.out; have y11 := ZZ34.out; have y12 := ZZ37.out; have y13 := ZZ38.out; have y14 := ZZ42.out; have y15 := ZZ46.out; have y16 := ZZ50.out; omega)
      clear G_46 X_46
      clear B_48
      have q_51 : w9.cell? ⟨w3.heap.size, 0, none⟩ = some (.slice a6 n c6) := HD_49.out.cell (b := w3.heap.size) (vs := [.slice a6 n c6]) (i := 0) (by simp) (by simp)
      have q_52 : w9.cell? ⟨w1.heap.size, 0, none⟩ = some (.slice a n c) := HD_49.out.cell (b := w1.heap.size) (vs := [.slice a n c]) (i := 0) (by simp) (by simp)
      go_wp2_with fail
      refine (sameBag_h w2.heap.size w3.heap.size w.heap.size w1.heap.size a6 a n c6 c L _ X_50.out.toIn G_50.out (by have y0 := ZZ3.out; have y1 := ZZ7.out; have y2 := ZZ8.out; have y3 := ZZ12.out; have y4 := ZZ15.out; have y5 := ZZ19.out; have y6 := ZZ20.out; have y7 := ZZ23.out; have y8 := ZZ26.out; have y9 := ZZ30.out; have y10 := ZZ31.out; have y11 := ZZ34.out; have y12 := ZZ37.out; have y13 := ZZ38.out; have y14 := ZZ42.out; have y15 := ZZ46.out; have y16 := ZZ50.out; omega) (by have y0 := ZZ3.out; have y1 := ZZ7.out; have y2 := ZZ8.out; have y3 := ZZ12.out; have y4 := ZZ15.out; have y5 := ZZ19.out; have y6 := ZZ20.out; have y7 := ZZ23.out; have y8 := ZZ26.out; have y9 := ZZ30.out; have y10 := ZZ31.out; have y11 := ZZ34.out; have y12 := ZZ37.out; have y13 := ZZ38.out; have y14 := ZZ42.out; have y15 := ZZ46.out; have y16 := ZZ50.out; omega) HLN.out.1 (by omega) (fun i hi => by have := HLN.out.2.2 i hi; omega)).mono ?_
      rintro e w10 ⟨rfl, B_53⟩
      clear q_51 q_52
      have HD_54 : Hid (Hold w w10 [(w6.heap.size, [.slice a11 m c11]), (w5.heap.size, [.slice a9 m c9]), (w3.heap.size, [.slice a6 n c6]), (w1.heap.size, [.slice a n c])]) := HD_49.out.below B_53.out
      clear HD_49
      have ZZ55 : Hid (w9.heap.size ≤ w10.heap.size) := B_53.out.size
      have G_55 : Hid (BagIn w.heap.size w1.heap.size w10 a L) := G_50.out.below B_53.out (by have y0 := ZZ3.out; have y1 := ZZ7.out; have y2 := ZZ8.out; have y3 := ZZ12.out; have y4 := ZZ15.out; have y5 := ZZ19.out; have y6 := ZZ20.out; have y7 := ZZ23.out; have y8 := ZZ26.out; have y9 := ZZ30.out; have y10 := ZZ31.out; have y11 := ZZ34.out; have y12 := ZZ37.out; have y13 := ZZ38.out; have y14 := ZZ42.out; have y15 := ZZ46.out; have y16 := ZZ50.out; have y17 := ZZ55.out; omega)
      have X_55 : Hid (BagOwn w2.heap.size w3.heap.size w10 a6 L) := X_50.out.below B_53.out (by have y0 := ZZ3.out; have y1 := ZZ7.out; have y2 := ZZ8.out; have y3 := ZZ12.out; have y4 := ZZ15.out; have y5 := ZZ19.out; have y6 := ZZ20.out; have y7 := ZZ23.out; have y8 := ZZ26.out; have y9 := ZZ30.out; have y10 := ZZ31.out; have y11 := ZZ34.out; have y12 := ZZ37.out; have y13 := ZZ38.out; have y14 := ZZ42.out; have y15 := ZZ46.out; have y16 := ZZ50.out; have y17 := ZZ55.out; omega)
      clear G_50 X_50
      clear B_53
      go_wp2
      go_ret
      exact ⟨rfl, HD_54.out.bel⟩
  · have HOKK : Hid (okBag L = false) := by show _ = _; simpa using hok
    clear hok
    have q_9 : (w1.alloc (.cells #[.slice a n c] 26)).cell? ⟨w1.heap.size, 0, none⟩ = some (.slice a n c) := HD_6.out.cell (b := w1.heap.size) (vs := [.slice a n c]) (i := 0) (by simp) (by simp)
    go_wp2_with fail
    refine (bagText_any w.heap.size w1.heap.size a n c L _ G_8.out (by have y0 := ZZ3.out; have y1 := ZZ7.out; have y2 := ZZ8.out; omega) HLN.out.1 (by omega) (fun i hi => by have := HLN.out.2.2 i hi; omega)).mono ?_
    rintro e w2 ⟨t, ok, rfl, HT, B_10⟩
    clear q_9
    have HD_11 : Hid (Hold w w2 [(w1.heap.size, [.slice a n c])]) := HD_6.out.below B_10.out
    clear HD_6
    have ZZ12 : Hid ((w1.alloc (.cells #[.slice a n c] 26)).heap.size ≤ w2.heap.size) := B_10.out.size
    have G_12 : Hid (BagIn w.heap.size w1.heap.size w2 a L) := G_8.out.below B_10.out (by have y0 := ZZ3.out; have y1 := ZZ7.out; have y2 := ZZ8.out; have y3 := ZZ12.out; omega)
    clear G_8
    clear B_10
    obtain rfl : ok = false := HT.out.1.trans HOKK.out
    go_wp2_with fail
    refine (readSomeB t (by rw [HT.out.2]; have := txtOf_size L (by have := HLN.out; omega); omega) _).mono ?_
    rintro e w3 ⟨a6, n6, c6, ok6, rfl, B_13⟩
    have HD_14 : Hid (Hold w w3 [(w1.heap.size, [.slice a n c])]) := HD_11.out.below B_13.out
    clear HD_11
    have ZZ15 : Hid (w2.heap.size ≤ w3.heap.size) := B_13.out.size
    have G_15 : Hid (BagIn w.heap.size w1.heap.size w3 a L) := G_12.out.below B_13.out (by have y0 := ZZ3.out; have y1 := ZZ7.out; have y2 := ZZ8.out; have y3 := ZZ12.out; have y4 := ZZ15.out; omega)
    clear G_12
    clear B_13
    have BA_16 : Hid (Below w3.heap.size w3 (w3.alloc (.cells #[.slice a6 n6 c6] 26))) := below1' w3 _
    have HD_17 : Hid (Hold w (w3.alloc (.cells #[.slice a6 n6 c6] 26)) [(w3.heap.size, [.slice a6 n6 c6]), (w1.heap.size, [.slice a n c])]) := HD_14.out.more [.slice a6 n6 c6] 26
    clear HD_14
    have ZZ18 : Hid ((w3.alloc (.cells #[.slice a6 n6 c6] 26)).heap.size = w3.heap.size + 1) := by show _ = _; simp
    have ZZ19 : Hid (w3.heap.size ≤ (w3.alloc (.cells #[.slice a6 n6 c6] 26)).heap.size) := BA_16.out.size
    have G_19 : Hid (BagIn w.heap.size w1.heap.size (w3.alloc (.cells #[.slice a6 n6 c6] 26)) a L) := G_15.out.below BA_16.out (by have y0 := ZZ3.out; have y1 := ZZ7.out; have y2 := ZZ8.out; have y3 := ZZ12.out; have y4 := ZZ15.out; have y5 := ZZ18.out; have y6 := ZZ19.out; omega)
    clear G_15
    clear BA_16
    go_wp2_with fail
    refine (drawReadBag_any _ n0 cap0 a0 hn (HC.out.below HD_17.out.bel)).mono ?_
    rintro e w4 ⟨U, rfl, HU, B_20⟩
    have HD_21 : Hid (Hold w w4 [(w3.heap.size, [.slice a6 n6 c6]), (w1.heap.size, [.slice a n c])]) := HD_17.out.below B_20.out
    clear HD_17
    have ZZ22 : Hid ((w3.alloc (.cells #[.slice a6 n6 c6] 26)).heap.size ≤ w4.heap.size) := B_20.out.size
    have G_22 : Hid (BagIn w.heap.size w1.heap.size w4 a L) := G_19.out.below B_20.out (by have y0 := ZZ3.out; have y1 := ZZ7.out; have y2 := ZZ8.out; have y3 := ZZ12.out; have y4 := ZZ15.out; have y5 := ZZ18.out; have y6 := ZZ19.out; have y7 := ZZ22.out; omega)
    clear G_19
    clear B_20
    obtain ⟨may, M, m, hML, hM300, hMR, hMO, hMY, hSP, hIM⟩ := readBoth U (by have := HU.out; omega)
    have HML : Hid (M.length = m) := hML
    have HM300 : Hid (m ≤ 300) := hM300
    have HRW : Hid (∀ i, i < m → (at' M i).1.length ≤ 4) := hMR
    have HMO : Hid (okBag M = true) := hMO
    have HMY : Hid (may = true → U.data.toList = txtTo M M.length) := hMY
    have HSP : Hid (∀ w : World, Calls Try.prog 19 #[.string U] w fun e w' => ∃ a cap, e = .returned (.tuple #[.agg #[.slice a m cap], .bool may]) ∧ Hid (BagOwn w.heap.size w'.heap.size w' a M) ∧ Hid (Below w.heap.size w w')) := hSP
    have HIM : Hid (∀ w : World, Calls Try.prog 17 #[.string U] w fun e w' => ∃ a cap, e = .returned (.tuple #[.agg #[.slice a m cap], .bool may]) ∧ Hid (BagOwn w.heap.size w'.heap.size w' a M) ∧ Hid (Below w.heap.size w w')) := hIM
    clear hML hM300 hMR hMO hMY hSP hIM
    rcases Bool.eq_false_or_eq_true may with hmay | hmay
    · subst hmay
      go_wp2_with fail
      refine (HIM.out _).mono ?_
      rintro e w5 ⟨a9, c9, rfl, X_9, B_23⟩
      have HD_24 : Hid (Hold w w5 [(w3.heap.size, [.slice a6 n6 c6]), (w1.heap.size, [.slice a n c])]) := HD_21.out.below B_23.out
      clear HD_21
      have ZZ25 : Hid (w4.heap.size ≤ w5.heap.size) := B_23.out.size
      have G_25 : Hid (BagIn w.heap.size w1.heap.size w5 a L) := G_22.out.below B_23.out (by have y0 := ZZ3.out; have y1 := ZZ7.out; have y2 := ZZ8.out; have y3 := ZZ12.out; have y4 := ZZ15.out; have y5 := ZZ18.out; have y6 := ZZ19.out; have y7 := ZZ22.out; have y8 := ZZ25.out; omega)
      clear G_22
      clear B_23
      have Y_26 : Hid (BagOwn w4.heap.size w5.heap.size w5 a9 M) := X_9.out
      clear X_9 HIM
      have BA_27 : Hid (Below w5.heap.size w5 (w5.alloc (.cells #[.slice a9 m c9] 26))) := below1' w5 _
      have HD_28 : Hid (Hold w (w5.alloc (.cells #[.slice a9 m c9] 26)) [(w5.heap.size, [.slice a9 m c9]), (w3.heap.size, [.slice a6 n6 c6]), (w1.heap.size, [.slice a n c])]) := HD_24.out.more [.slice a9 m c9] 26
      clear HD_24
      have ZZ29 : Hid ((w5.alloc (.cells #[.slice a9 m c9] 26)).heap.size = w5.heap.size + 1) := by show _ = _; simp
      have ZZ30 : Hid (w5.heap.size ≤ (w5.alloc (.cells #[.slice a9 m c9] 26)).heap.size) := BA_27.out.size
      have G_30 : Hid (BagIn w.heap.size w1.heap.size (w5.alloc (.cells #[.slice a9 m c9] 26)) a L) := G_25.out.below BA_27.out (by have y0 := ZZ3.out; have y1 := ZZ7.out; have y2 := ZZ8.out; have y3 := ZZ12.out; have y4 := ZZ15.out; have y5 := ZZ18.out; have y6 := ZZ19.out; have y7 := ZZ22.out; have y8 := ZZ25.out; have y9 := ZZ29.out; have y10 := ZZ30.out; omega)
      have Y_30 : Hid (BagOwn w4.heap.size w5.heap.size (w5.alloc (.cells #[.slice a9 m c9] 26)) a9 M) := Y_26.out.below BA_27.out (by have y0 := ZZ3.out; have y1 := ZZ7.out; have y2 := ZZ8.out; have y3 := ZZ12.out; have y4 := ZZ15.out; have y5 := ZZ18.out; have y6 := ZZ19.out; have y7 := ZZ22.out; have y8 := ZZ25.out; have y9 := ZZ29.out; have y10 := ZZ30.out; omega)
      clear G_25 Y_26
      clear BA_27
      go_wp2_with fail
      refine (HSP.out _).mono ?_
      rintro e w6 ⟨a11, c11, rfl, X_11, B_31⟩
      have HD_32 : Hid (Hold w w6 [(w5.heap.size, [.slice a9 m c9]), (w3.heap.size, [.slice a6 n6 c6]), (w1.heap.size, [.slice a n c])]) := HD_28.out.below B_31.out
      clear HD_28
      have ZZ33 : Hid ((w5.alloc (.cells #[.slice a9 m c9] 26)).heap.size ≤ w6.heap.size) := B_31.out.size
      have G_33 : Hid (BagIn w.heap.size w1.heap.size w6 a L) := G_30.out.below B_31.out (by have y0 := ZZ3.out; have y1 := ZZ7.out; have y2 := ZZ8.out; have y3 := ZZ12.out; have y4 := ZZ15.out; have y5 := ZZ18.out; have y6 := ZZ19.out; have y7 := ZZ22.out; have y8 := ZZ25.out; have y9 := ZZ29.out; have y10 := ZZ30.out; have y11 := ZZ33.out; omega)
      have Y_33 : Hid (BagOwn w4.heap.size w5.heap.size w6 a9 M) := Y_30.out.below B_31.out (by have y0 := ZZ3.out; have y1 := ZZ7.out; have y2 := ZZ8.out; have y3 := ZZ12.out; have y4 := ZZ15.out; have y5 := ZZ18.out; have y6 := ZZ19.out; have y7 := ZZ22.out; have y8 := ZZ25.out; have y9 := ZZ29.out; have y10 := ZZ30.out; have y11 := ZZ33.out; omega)
      clear G_30 Y_30
      clear B_31
      clear X_11 HSP
      have BA_34 : Hid (Below w6.heap.size w6 (w6.alloc (.cells #[.slice a11 m c11] 26))) := below1' w6 _
      have HD_35 : Hid (Hold w (w6.alloc (.cells #[.slice a11 m c11] 26)) [(w6.heap.size, [.slice a11 m c11]), (w5.heap.size, [.slice a9 m c9]), (w3.heap.size, [.slice a6 n6 c6]), (w1.heap.size, [.slice a n c])]) := HD_32.out.more [.slice a11 m c11] 26
      clear HD_32
      have ZZ36 : Hid ((w6.alloc (.cells #[.slice a11 m c11] 26)).heap.size = w6.heap.size + 1) := by show _ = _; simp
      have ZZ37 : Hid (w6.heap.size ≤ (w6.alloc (.cells #[.slice a11 m c11] 26)).heap.size) := BA_34.out.size
      have G_37 : Hid (BagIn w.heap.size w1.heap.size (w6.alloc (.cells #[.slice a11 m c11] 26)) a L) := G_33.out.below BA_34.out (by have y0 := ZZ3.out; have y1 := ZZ7.out; have y2 := ZZ8.out; have y3 := ZZ12.out; have y4 := ZZ15.out; have y5 := ZZ18.out; have y6 := ZZ19.out; have y7 := ZZ22.out; have y8 := ZZ25.out; have y9 := ZZ29.out; have y10 := ZZ30.out; have y11 := ZZ33.out; have y12 := ZZ36.out; have y13 := ZZ37.out; omega)
      have Y_37 : Hid (BagOwn w4.heap.size w5.heap.size (w6.alloc (.cells #[.slice a11 m c11] 26)) a9 M) := Y_33.out.below BA_34.out (by have y0 := ZZ3.out; have y1 := ZZ7.out; have y2 := ZZ8.out; have y3 := ZZ12.out; have y4 := ZZ15.out; have y5 := ZZ18.out; have y6 := ZZ19.out; have y7 := ZZ22.out; have y8 := ZZ25.out; have y9 := ZZ29.out; have y10 := ZZ30.out; have y11 := ZZ33.out; have y12 := ZZ36.out; have y13 := ZZ37.out; omega)
      clear G_33 Y_33
      clear BA_34
      have q_38 : (w6.alloc (.cells #[.slice a11 m c11] 26)).cell? ⟨w5.heap.size, 0, none⟩ = some (.slice a9 m c9) := HD_35.out.cell (b := w5.heap.size) (vs := [.slice a9 m c9]) (i := 0) (by simp) (by simp)
      go_wp2_with fail
      refine (bagText_any w4.heap.size w5.heap.size a9 m c9 M _ Y_37.out.toIn (by have y0 := ZZ3.out; have y1 := ZZ7.out; have y2 := ZZ8.out; have y3 := ZZ12.out; have y4 := ZZ15.out; have y5 := ZZ18.out; have y6 := ZZ19.out; have y7 := ZZ22.out; have y8 := ZZ25.out; have y9 := ZZ29.out; have y10 := ZZ30.out; have y11 := ZZ33.out; have y12 := ZZ36.out; have y13 := ZZ37.out; omega) HML.out (by have := HM300.out; omega) (fun i hi => by have := HRW.out i hi; omega)).mono ?_
      rintro e w7 ⟨t13, ok13, rfl, HT13, B_39⟩
      clear q_38
      have HD_40 : Hid (Hold w w7 [(w6.heap.size, [.slice a11 m c11]), (w5.heap.size, [.slice a9 m c9]), (w3.heap.size, [.slice a6 n6 c6]), (w1.heap.size, [.slice a n c])]) := HD_35.out.below B_39.out
      clear HD_35
      have ZZ41 : Hid ((w6.alloc (.cells #[.slice a11 m c11] 26)).heap.size ≤ w7.heap.size) := B_39.out.size
      have G_41 : Hid (BagIn w.heap.size w1.heap.size w7 a L) := G_37.out.below B_39.out (by have y0 := ZZ3.out; have y1 := ZZ7.out; have y2 := ZZ8.out; have y3 := ZZ12.out; have y4 := ZZ15.out; have y5 := ZZ18.out; have y6 := ZZ19.out; have y7 := ZZ22.out; have y8 := ZZ25.out; have y9 := ZZ29.out; have y10 := ZZ30.out; have y11 := ZZ33.out; have y12 := ZZ36.out; have y13 := ZZ37.out; have y14 := ZZ41.out; omega)
      have Y_41 : Hid (BagOwn w4.heap.size w5.heap.size w7 a9 M) := Y_37.out.below B_39.out (by have y0 := ZZ3.out; have y1 := ZZ7.out; have y2 := ZZ8.out; have y3 := ZZ12.out; have y4 := ZZ15.out; have y5 := ZZ18.out; have y6 := ZZ19.out; have y7 := ZZ22.out; have y8 := ZZ25.out; have y9 := ZZ29.out; have y10 := ZZ30.out; have y11 := ZZ33.out; have y12 := ZZ36.out; have y13 := ZZ37.out; have y14 := ZZ41.out; omega)
      clear G_37 Y_37
      clear B_39
      clear Y_41
      obtain rfl : t13 = U := HT13.out.2.trans (txt_back HMO.out (HMY.out (by simp)))
      have q_42 : w7.cell? ⟨w1.heap.size, 0, none⟩ = some (.slice a n c) := HD_40.out.cell (b := w1.heap.size) (vs := [.slice a n c]) (i := 0) (by simp) (by simp)
      go_wp2_with fail
      refine (specOk_h w.heap.size w1.heap.size a n c L false _ G_41.out (by have y0 := ZZ3.out; have y1 := ZZ7.out; have y2 := ZZ8.out; have y3 := ZZ12.out; have y4 := ZZ15.out; have y5 := ZZ18.out; have y6 := ZZ19.out; have y7 := ZZ22.out; have y8 := ZZ25.out; have y9 := ZZ29.out; have y10 := ZZ30.out; have y11 := ZZ33.out; have y12 := ZZ36.out; have y13 := ZZ37.out; have y14 := ZZ41.out; omega) HLN.out.1 (by omega) (fun i hi => by have := HLN.out.2.2 i hi; omega) HOKK.out.symm).mono ?_
      rintro e w8 ⟨rfl, B_43⟩
      clear q_42
      have HD_44 : Hid (Hold w w8 [(w6.heap.size, [.slice a11 m c11]), (w5.heap.size, [.slice a9 m c9]), (w3.heap.size, [.slice a6 n6 c6]), (w1.heap.size, [.slice a n c])]) := HD_40.out.below B_43.out
      clear HD_40
      have ZZ45 : Hid (w7.heap.size ≤ w8.heap.size) := B_43.out.size
      have G_45 : Hid (BagIn w.heap.size w1.heap.size w8 a L) := G_41.out.below B_43.out (by have y0 := ZZ3.out; have y1 := ZZ7.out; have y2 := ZZ8.out; have y3 := ZZ12.out; have y4 := ZZ15.out; have y5 := ZZ18.out; have y6 := ZZ19.out; have y7 := ZZ22.out; have y8 := ZZ25.out; have y9 := ZZ29.out; have y10 := ZZ30.out; have y11 := ZZ33.out; have y12 := ZZ36.out; have y13 := ZZ37.out; have y14 := ZZ41.out; have y15 := ZZ45.out; omega)
      clear G_41
      clear B_43
      have q_46 : w8.cell? ⟨w1.heap.size, 0, none⟩ = some (.slice a n c) := HD_44.out.cell (b := w1.heap.size) (vs := [.slice a n c]) (i := 0) (by simp) (by simp)
      go_wp2_with fail
      refine (bagOk_h w.heap.size w1.heap.size a n c L false _ G_45.out (by have y0 := ZZ3.out; have y1 := ZZ7.out; have y2 := ZZ8.out; have y3 := ZZ12.out; have y4 := ZZ15.out; have y5 := ZZ18.out; have y6 := ZZ19.out; have y7 := ZZ22.out; have y8 := ZZ25.out; have y9 := ZZ29.out; have y10 := ZZ30.out; have y11 := ZZ33.out; have y12 := ZZ36.out; have y13 := ZZ37.out; have y14 := ZZ41.out; have y15 := ZZ45.out; omega) HLN.out.1 (by omega) (fun i hi => by have := HLN.out.2.2 i hi; omega) HOKK.out.symm).mono ?_
      rintro e w9 ⟨rfl, B_47⟩
      clear q_46
      have HD_48 : Hid (Hold w w9 [(w6.heap.size, [.slice a11 m c11]), (w5.heap.size, [.slice a9 m c9]), (w3.heap.size, [.slice a6 n6 c6]), (w1.heap.size, [.slice a n c])]) := HD_44.out.below B_47.out
      clear HD_44
      have ZZ49 : Hid (w8.heap.size ≤ w9.heap.size) := B_47.out.size
      have G_49 : Hid (BagIn w.heap.size w1.heap.size w9 a L) := G_45.out.below B_47.out (by have y0 := ZZ3.out; have y1 := ZZ7.out; have y2 := ZZ8.out; have y3 := ZZ12.out; have y4 := ZZ15.out; have y5 := ZZ18.out; have y6 := ZZ19.out; have y7 := ZZ22.out; have y8 := ZZ25.out; have y9 := ZZ29.out; have y10 := ZZ30.out; have y11 := ZZ33.out; have y12 := ZZ36.out; have y13 := ZZ37.out; have y14 := ZZ41.out; have y15 := ZZ45.out; have y16 := ZZ49.out; omega)
      clear G_45
      clear B_47
      go_wp2
      go_ret
      exact ⟨rfl, HD_48.out.bel⟩
    · subst hmay
      go_wp2_with fail
      refine (HIM.out _).mono ?_
      rintro e w5 ⟨a9, c9, rfl, X_9, B_23⟩
      have HD_24 : Hid (Hold w w5 [(w3.heap.size, [.slice a6 n6 c6]), (w1.heap.size, [.slice a n c])]) := HD_21.out.below B_23.out
      clear HD_21
      have ZZ25 : Hid (w4.heap.size ≤ w5.heap.size) := B_23.out.size
      have G_25 : Hid (BagIn w.heap.size w1.heap.size w5 a L) := G_22.out.below B_23.out (by have y0 := ZZ3.out; have y1 := ZZ7.out; have y2 := ZZ8.out; have y3 := ZZ12.out; have y4 := ZZ15.out; have y5 := ZZ18.out; have y6 := ZZ19.out; have y7 := ZZ22.out; have y8 := ZZ25.out; omega)
      clear G_22
      clear B_23
      have Y_26 : Hid (BagOwn w4.heap.size w5.heap.size w5 a9 M) := X_9.out
      clear X_9 HIM
      have BA_27 : Hid (Below w5.heap.size w5 (w5.alloc (.cells #[.slice a9 m c9] 26))) := below1' w5 _
      have HD_28 : Hid (Hold w (w5.alloc (.cells #[.slice a9 m c9] 26)) [(w5.heap.size, [.slice a9 m c9]), (w3.heap.size, [.slice a6 n6 c6]), (w1.heap.size, [.slice a n c])]) := HD_24.out.more [.slice a9 m c9] 26
      clear HD_24
      have ZZ29 : Hid ((w5.alloc (.cells #[.slice a9 m c9] 26)).heap.size = w5.heap.size + 1) := by show _ = _; simp
      have ZZ30 : Hid (w5.heap.size ≤ (w5.alloc (.cells #[.slice a9 m c9] 26)).heap.size) := BA_27.out.size
      have G_30 : Hid (BagIn w.heap.size w1.heap.size (w5.alloc (.cells #[.slice a9 m c9] 26)) a L) := G_25.out.below BA_27.out (by have y0 := ZZ3.out; have y1 := ZZ7.out; have y2 := ZZ8.out; have y3 := ZZ12.out; have y4 := ZZ15.out; have y5 := ZZ18.out; have y6 := ZZ19.out; have y7 := ZZ22.out; have y8 := ZZ25.out; have y9 := ZZ29.out; have y10 := ZZ30.out; omega)
      have Y_30 : Hid (BagOwn w4.heap.size w5.heap.size (w5.alloc (.cells #[.slice a9 m c9] 26)) a9 M) := Y_26.out.below BA_27.out (by have y0 := ZZ3.out; have y1 := ZZ7.out; have y2 := ZZ8.out; have y3 := ZZ12.out; have y4 := ZZ15.out; have y5 := ZZ18.out; have y6 := ZZ19.out; have y7 := ZZ22.out; have y8 := ZZ25.out; have y9 := ZZ29.out; have y10 := ZZ30.out; omega)
      clear G_25 Y_26
      clear BA_27
      go_wp2_with fail
      refine (HSP.out _).mono ?_
      rintro e w6 ⟨a11, c11, rfl, X_11, B_31⟩
      have HD_32 : Hid (Hold w w6 [(w5.heap.size, [.slice a9 m c9]), (w3.heap.size, [.slice a6 n6 c6]), (w1.heap.size, [.slice a n c])]) := HD_28.out.below B_31.out
      clear HD_28
      have ZZ33 : Hid ((w5.alloc (.cells #[.slice a9 m c9] 26)).heap.size ≤ w6.heap.size) := B_31.out.size
      have G_33 : Hid (BagIn w.heap.size w1.heap.size w6 a L) := G_30.out.below B_31.out (by have y0 := ZZ3.out; have y1 := ZZ7.out; have y2 := ZZ8.out; have y3 := ZZ12.out; have y4 := ZZ15.out; have y5 := ZZ18.out; have y6 := ZZ19.out; have y7 := ZZ22.out; have y8 := ZZ25.out; have y9 := ZZ29.out; have y10 := ZZ30.out; have y11 := ZZ33.out; omega)
      have Y_33 : Hid (BagOwn w4.heap.size w5.heap.size w6 a9 M) := Y_30.out.below B_31.out (by have y0 := ZZ3.out; have y1 := ZZ7.out; have y2 := ZZ8.out; have y3 := ZZ12.out; have y4 := ZZ15.out; have y5 := ZZ18.out; have y6 := ZZ19.out; have y7 := ZZ22.out; have y8 := ZZ25.out; have y9 := ZZ29.out; have y10 := ZZ30.out; have y11 := ZZ33.out; omega)
      clear G_30 Y_30
      clear B_31
      clear X_11 HSP
      have BA_34 : Hid (Below w6.heap.size w6 (w6.alloc (.cells #[.slice a11 m c11] 26))) := below1' w6 _
      have HD_35 : Hid (Hold w (w6.alloc (.cells #[.slice a11 m c11] 26)) [(w6.heap.size, [.slice a11 m c11]), (w5.heap.size, [.slice a9 m c9]), (w3.heap.size, [.slice a6 n6 c6]), (w1.heap.size, [.slice a n c])]) := HD_32.out.more [.slice a11 m c11] 26
      clear HD_32
      have ZZ36 : Hid ((w6.alloc (.cells #[.slice a11 m c11] 26)).heap.size = w6.heap.size + 1) := by show _ = _; simp
      have ZZ37 : Hid (w6.heap.size ≤ (w6.alloc (.cells #[.slice a11 m c11] 26)).heap.size) := BA_34.out.size
      have G_37 : Hid (BagIn w.heap.size w1.heap.size (w6.alloc (.cells #[.slice a11 m c11] 26)) a L) := G_33.out.below BA_34.out (by have y0 := ZZ3.out; have y1 := ZZ7.out; have y2 := ZZ8.out; have y3 := ZZ12.out; have y4 := ZZ15.out; have y5 := ZZ18.out; have y6 := ZZ19.out; have y7 := ZZ22.out; have y8 := ZZ25.out; have y9 := ZZ29.out; have y10 := ZZ30.out; have y11 := ZZ33.out; have y12 := ZZ36.out; have y13 := ZZ37.out; omega)
      have Y_37 : Hid (BagOwn w4.heap.size w5.heap.size (w6.alloc (.cells #[.slice a11 m c11] 26)) a9 M) := Y_33.out.below BA_34.out (by have y0 := ZZ3.out; have y1 := ZZ7.out; have y2 := ZZ8.out; have y3 := ZZ12.out; have y4 := ZZ15.out; have y5 := ZZ18.out; have y6 := ZZ19.out; have y7 := ZZ22.out; have y8 := ZZ25.out; have y9 := ZZ29.out; have y10 := ZZ30.out; have y11 := ZZ33.out; have y12 := ZZ36.out; have y13 := ZZ37.out; omega)
      clear G_33 Y_33
      clear BA_34
      have q_38 : (w6.alloc (.cells #[.slice a11 m c11] 26)).cell? ⟨w5.heap.size, 0, none⟩ = some (.slice a9 m c9) := HD_35.out.cell (b := w5.heap.size) (vs := [.slice a9 m c9]) (i := 0) (by simp) (by simp)
      go_wp2_with fail
      refine (bagText_any w4.heap.size w5.heap.size a9 m c9 M _ Y_37.out.toIn (by have y0 := ZZ3.out; have y1 := ZZ7.out; have y2 := ZZ8.out; have y3 := ZZ12.out; have y4 := ZZ15.out; have y5 := ZZ18.out; have y6 := ZZ19.out; have y7 := ZZ22.out; have y8 := ZZ25.out; have y9 := ZZ29.out; have y10 := ZZ30.out; have y11 := ZZ33.out; have y12 := ZZ36.out; have y13 := ZZ37.out; omega) HML.out (by have := HM300.out; omega) (fun i hi => by have := HRW.out i hi; omega)).mono ?_
      rintro e w7 ⟨t13, ok13, rfl, HT13, B_39⟩
      clear q_38
      have HD_40 : Hid (Hold w w7 [(w6.heap.size, [.slice a11 m c11]), (w5.heap.size, [.slice a9 m c9]), (w3.heap.size, [.slice a6 n6 c6]), (w1.heap.size, [.slice a n c])]) := HD_35.out.below B_39.out
      clear HD_35
      have ZZ41 : Hid ((w6.alloc (.cells #[.slice a11 m c11] 26)).heap.size ≤ w7.heap.size) := B_39.out.size
      have G_41 : Hid (BagIn w.heap.size w1.heap.size w7 a L) := G_37.out.below B_39.out (by have y0 := ZZ3.out; have y1 := ZZ7.out; have y2 := ZZ8.out; have y3 := ZZ12.out; have y4 := ZZ15.out; have y5 := ZZ18.out; have y6 := ZZ19.out; have y7 := ZZ22.out; have y8 := ZZ25.out; have y9 := ZZ29.out; have y10 := ZZ30.out; have y11 := ZZ33.out; have y12 := ZZ36.out; have y13 := ZZ37.out; have y14 := ZZ41.out; omega)
      have Y_41 : Hid (BagOwn w4.heap.size w5.heap.size w7 a9 M) := Y_37.out.below B_39.out (by have y0 := ZZ3.out; have y1 := ZZ7.out; have y2 := ZZ8.out; have y3 := ZZ12.out; have y4 := ZZ15.out; have y5 := ZZ18.out; have y6 := ZZ19.out; have y7 := ZZ22.out; have y8 := ZZ25.out; have y9 := ZZ29.out; have y10 := ZZ30.out; have y11 := ZZ33.out; have y12 := ZZ36.out; have y13 := ZZ37.out; have y14 := ZZ41.out; omega)
      clear G_37 Y_37
      clear B_39
      clear Y_41
      have q_42 : w7.cell? ⟨w1.heap.size, 0, none⟩ = some (.slice a n c) := HD_40.out.cell (b := w1.heap.size) (vs := [.slice a n c]) (i := 0) (by simp) (by simp)
      go_wp2_with fail
      refine (specOk_h w.heap.size w1.heap.size a n c L false _ G_41.out (by have y0 := ZZ3.out; have y1 := ZZ7.out; have y2 := ZZ8.out; have y3 := ZZ12.out; have y4 := ZZ15.out; have y5 := ZZ18.out; have y6 := ZZ19.out; have y7 := ZZ22.out; have y8 := ZZ25.out; have y9 := ZZ29.out; have y10 := ZZ30.out; have y11 := ZZ33.out; have y12 := ZZ36.out; have y13 := ZZ37.out; have y14 := ZZ41.out; omega) HLN.out.1 (by omega) (fun i hi => by have := HLN.out.2.2 i hi; omega) HOKK.out.symm).mono ?_
      rintro e w8 ⟨rfl, B_43⟩
      clear q_42
      have HD_44 : Hid (Hold w w8 [(w6.heap.size, [.slice a11 m c11]), (w5.heap.size, [.slice a9 m c9]), (w3.heap.size, [.slice a6 n6 c6]), (w1.heap.size, [.slice a n c])]) := HD_40.out.below B_43.out
      clear HD_40
      have ZZ45 : Hid (w7.heap.size ≤ w8.heap.size) := B_43.out.size
      have G_45 : Hid (BagIn w.heap.size w1.heap.size w8 a L) := G_41.out.below B_43.out (by have y0 := ZZ3.out; have y1 := ZZ7.out; have y2 := ZZ8.out; have y3 := ZZ12.out; have y4 := ZZ15.out; have y5 := ZZ18.out; have y6 := ZZ19.out; have y7 := ZZ22.out; have y8 := ZZ25.out; have y9 := ZZ29.out; have y10 := ZZ30.out; have y11 := ZZ33.out; have y12 := ZZ36.out; have y13 := ZZ37.out; have y14 := ZZ41.out; have y15 := ZZ45.out; omega)
      clear G_41
      clear B_43
      have q_46 : w8.cell? ⟨w1.heap.size, 0, none⟩ = some (.slice a n c) := HD_44.out.cell (b := w1.heap.size) (vs := [.slice a n c]) (i := 0) (by simp) (by simp)
      go_wp2_with fail
      refine (bagOk_h w.heap.size w1.heap.size a n c L false _ G_45.out (by have y0 := ZZ3.out; have y1 := ZZ7.out; have y2 := ZZ8.out; have y3 := ZZ12.out; have y4 := ZZ15.out; have y5 := ZZ18.out; have y6 := ZZ19.out; have y7 := ZZ22.out; have y8 := ZZ25.out; have y9 := ZZ29.out; have y10 := ZZ30.out; have y11 := ZZ33.out; have y12 := ZZ36.out; have y13 := ZZ37.out; have y14 := ZZ41.out; have y15 := ZZ45.out; omega) HLN.out.1 (by omega) (fun i hi => by have := HLN.out.2.2 i hi; omega) HOKK.out.symm).mono ?_
      rintro e w9 ⟨rfl, B_47⟩
      clear q_46
      have HD_48 : Hid (Hold w w9 [(w6.heap.size, [.slice a11 m c11]), (w5.heap.size, [.slice a9 m c9]), (w3.heap.size, [.slice a6 n6 c6]), (w1.heap.size, [.slice a n c])]) := HD_44.out.below B_47.out
      clear HD_44
      have ZZ49 : Hid (w8.heap.size ≤ w9.heap.size) := B_47.out.size
      have G_49 : Hid (BagIn w.heap.size w1.heap.size w9 a L) := G_45.out.below B_47.out (by have y0 := ZZ3.out; have y1 := ZZ7.out; have y2 := ZZ8.out; have y3 := ZZ12.out; have y4 := ZZ15.out; have y5 := ZZ18.out; have y6 := ZZ19.out; have y7 := ZZ22.out; have y8 := ZZ25.out; have y9 := ZZ29.out; have y10 := ZZ30.out; have y11 := ZZ33.out; have y12 := ZZ36.out; have y13 := ZZ37.out; have y14 := ZZ41.out; have y15 := ZZ45.out; have y16 := ZZ49.out; omega)
      clear G_45
      clear B_47
      go_wp2
      go_ret
      exact ⟨rfl, HD_48.out.bel⟩
end Go.Proofs.Ytelikebpddhncaa
