/-
  The program's reader of numbers: (*varReader).number, isAtEnd; the model's l03Var.
-/
import Derived.Test.YtelikebpddhncaaRd
namespace Go.Proofs.Ytelikebpddhncaa
open Go.RowKit

/-- a reader in block c, of type T -/
def RdAt (T : TypeId) (c : Nat) (s : ByteArray) (st : St) (w : World) : Prop :=
  ∃ (p : Nat) (f : Bool), w.heap[c]? = some (.cells #[.string s, .int .i64 (p : Int), .bool f] T (0, 0)) ∧ p ≤ s.size ∧ st = if f = true then none else some (s.data.toList.drop p)

theorem RdAt.below {T : TypeId} {c B : Nat} {s : ByteArray} {st : St} {w w' : World} (h : RdAt T c s st w) (hb : Below B w w') (hB : c < B) : RdAt T c s st w' := by
  obtain ⟨p, f, h1, h2⟩ := h
  exact ⟨p, f, (hb.block c hB).trans h1, h2⟩
theorem RdAt.lt {T : TypeId} {c : Nat} {s : ByteArray} {st : St} {w : World} (h : RdAt T c s st w) : c < w.heap.size := by
  obtain ⟨p, f, h1, _⟩ := h
  exact (Array.getElem?_eq_some_iff.1 h1).1
theorem rdv_none {s : ByteArray} {a : Nat} (h : sp.rd 5 0 1 0 (s.data.toList.drop a) = none) : sp.rdv s a = none := by unfold sp.rdv; rw [h]; rfl
theorem rdv_some {s : ByteArray} {a n k : Nat} (h : sp.rd 5 0 1 0 (s.data.toList.drop a) = some (n, k)) : sp.rdv s a = some (n, a + k) := by unfold sp.rdv; rw [h]; rfl
theorem heap_set1 {w : World} {c : Nat} {x y z : Value} {T : TypeId} (h : w.heap[c]? = some (.cells #[x, y, z] T (0, 0))) (u : Value) : (w.setCell ⟨c, 1, none⟩ u).heap[c]? = some (.cells #[x, u, z] T (0, 0)) := by
  simp [World.setCell, Array.getElem?_modify, h]
theorem heap_set2 {w : World} {c : Nat} {x y z : Value} {T : TypeId} (h : w.heap[c]? = some (.cells #[x, y, z] T (0, 0))) (u : Value) : (w.setCell ⟨c, 2, none⟩ u).heap[c]? = some (.cells #[x, y, u] T (0, 0)) := by
  simp [World.setCell, Array.getElem?_modify, h]

/-- what one read of a number gives: n, p behind it, whether there is one; x and st' as the reader tells -/
structure Read1 (s : ByteArray) (p most : Nat) (f : Bool) (n q : Nat) (ok : Bool) : Prop where
  size : q ≤ s.size
  num : n ≤ 1000000000
  yes : ok = true → sp.rdv s p = some (n, q)
  no : ok = false → sp.rdv s p = none ∧ n = 0 ∧ q = 0
  good : f = false → ok = true → n ≤ most → rn (some (s.data.toList.drop p)) most = (n, some (s.data.toList.drop q))
  bad : (f = true ∨ ok = false ∨ most < n) → rn (if f = true then none else some (s.data.toList.drop p)) most = (0, none)
theorem read1 (s : ByteArray) (p most : Nat) (f : Bool) (hp : p ≤ s.size) : ∃ n q ok, Read1 s p most f n q ok := by
  rcases hv : sp.rd 5 0 1 0 (s.data.toList.drop p) with _ | ⟨n, k⟩
  · refine ⟨0, 0, false, Nat.zero_le _, Nat.zero_le _, ?_, fun _ => ⟨rdv_none hv, rfl, rfl⟩, ?_, fun _ => ?_⟩
    · intro h; cases h
    · intro _ h; cases h
    · cases f
      · exact rn_of_none hv
      · rfl
  · have h1 := sp.rdv_le hp (rdv_some hv)
    refine ⟨n, p + k, true, h1.2, h1.1, fun _ => rdv_some hv, ?_, fun _ _ hn => ?_, fun h => ?_⟩
    · intro h; cases h
    · rw [rn_of_some hv, if_neg (by omega), List.drop_drop]
    · cases f
      · rcases h with h | h | h
        · cases h
        · cases h
        · show rn (some _) most = _
          rw [rn_of_some hv, if_pos h]
      · rfl

set_option maxHeartbeats 2000000 in
set_option maxRecDepth 100000 in
theorem number_any (c : Nat) (s : ByteArray) (st : St) (most : Nat) (w : World) (h : RdAt 80 c s st w) (hs : s.size ≤ 1048576) :
    Calls Try.prog 57 #[.pointer (some ⟨c, 0, none⟩), .int .i64 (most : Int)] w fun e w' => ∃ x : Nat, e = .returned (.int .i64 (x : Int)) ∧ Hid (x = (rn st most).1) ∧ Hid (RdAt 80 c s (rn st most).2 w') ∧ Hid (KeptBut c w w') := by
  obtain ⟨p, f, hb, hp, rfl⟩ := h
  obtain ⟨n, q, ok, HR⟩ := read1 s p most f hp
  have HRD : Hid (Read1 s p most f n q ok) := HR
  have c0 : w.cell? ⟨c, 0, none⟩ = some (.string s) := by rw [Lib.cell_of_heap hb]; rfl
  have c1 : w.cell? ⟨c, 1, none⟩ = some (.int .i64 (p : Int)) := by rw [Lib.cell_of_heap hb]; rfl
  have HLT : Hid (c < w.heap.size) := (Array.getElem?_eq_some_iff.1 hb).1
  have HBK : Hid (w.heap[c]? = some (.cells #[.string s, .int .i64 (p : Int), .bool f] 80 (0, 0))) := hb
  have HC : Hid (∀ w0, Below w.heap.size w w0 → Calls Try.prog 95 #[.string s, .int .i64 (p : Int)] w0 fun e w' => e = .returned (.tuple #[.int .i64 (n : Int), .int .i64 (q : Int), .bool ok]) ∧ Hid (Below w.heap.size w w') ∧ (w'.cell? ⟨c, 0, none⟩ = some (.string s) ∧ w'.cell? ⟨c, 1, none⟩ = some (.int .i64 (p : Int)))) := by
    intro w0 hw
    refine (sp.ReadVar_any s p w0 hs hp).mono ?_
    rintro e w' ⟨rfl, hb'⟩
    have hk := hw.trans (hb'.mono hw.size)
    refine ⟨?_, hk, cell_below c0 hk HLT.out, cell_below c1 hk HLT.out⟩
    cases ok
    · obtain ⟨h1, rfl, rfl⟩ := HR.no rfl
      rw [h1]; rfl
    · rw [HR.yes rfl]; rfl
  have hnm : (n : Int) ≤ 1000000000 := by have := HR.num; omega
  have HPS : Hid (p ≤ s.size) := hp
  clear HR hb hp
  go_enter Try.func57, Try.ntmps57
  go_wp2_with fail
  go_region_held (fun w' => w'.cell? ⟨c, 0, none⟩ = some (.string s) ∧ w'.cell? ⟨c, 1, none⟩ = some (.int .i64 (p : Int))) (first | exact ⟨c0, c1⟩ | exact hk1) ((go_at_call 95; refine (HC.out _ ((Below.refl _ _).drew)).mono ?_; rintro e w1 ⟨rfl, hb1, hk1⟩))
  have hbk1 : w1.heap[c]? = some (.cells #[.string s, .int .i64 (p : Int), .bool f] 80 (0, 0)) := (hb1.out.block c HLT.out).trans HBK.out
  have HBK1 : Hid (w1.heap[c]? = some (.cells #[.string s, .int .i64 (p : Int), .bool f] 80 (0, 0))) := hbk1
  have HKB : Hid (KeptBut c w w1) := (KeptBut.refl c w).below hb1.out
  have e1 : w1.cell? ⟨c, 1, none⟩ = some (.int .i64 (p : Int)) := by rw [Lib.cell_of_heap hbk1]; rfl
  have e2 : w1.cell? ⟨c, 2, none⟩ = some (.bool f) := by rw [Lib.cell_of_heap hbk1]; rfl
  have f1 : w1.frozen? ⟨c, 1, none⟩ = false := Lib.frozen_of_heap hbk1 1
  have f2 : w1.frozen? ⟨c, 2, none⟩ = false := Lib.frozen_of_heap hbk1 2
  clear hk1 hb1 hbk1 c0 c1 HC
  have fin : Hid (∀ {x : Nat}, (f = true ∨ ok = false ∨ most < n) → x = 0 → x = (rn (if f = true then none else some (s.data.toList.drop p)) most).1 ∧ RdAt 80 c s (rn (if f = true then none else some (s.data.toList.drop p)) most).2 (w1.setCell ⟨c, 2, none⟩ (.bool true)) ∧ KeptBut c w (w1.setCell ⟨c, 2, none⟩ (.bool true))) := by
    intro x hor hx
    rw [HRD.out.bad hor]
    exact ⟨hx, ⟨p, true, heap_set2 HBK1.out _, HPS.out, rfl⟩, HKB.out.setCell _⟩
  rcases Bool.eq_false_or_eq_true f with hf | hf
  · subst hf
    go_wp2
    go_ret
    obtain ⟨h1, h2, h3⟩ := fin.out (x := 0) (by simp) rfl
    exact ⟨0, rfl, h1, h2, h3⟩
  · subst hf
    rcases Bool.eq_false_or_eq_true ok with ho | ho
    · subst ho
      by_cases hlt : (most : Int) < (n : Int)
      · have hd : decide ((most : Int) < (n : Int)) = true := decide_eq_true hlt
        go_wp2
        go_ret
        obtain ⟨h1, h2, h3⟩ := fin.out (x := 0) (by simp; omega) rfl
        exact ⟨0, rfl, h1, h2, h3⟩
      · have hd : decide ((most : Int) < (n : Int)) = false := decide_eq_false hlt
        go_wp2
        go_ret
        have hg := HRD.out.good rfl rfl (by omega)
        refine ⟨n, rfl, ?_, ?_, HKB.out.setCell _⟩
        · show n = (rn (some _) most).1; rw [hg]
        · show RdAt 80 c s (rn (some _) most).2 _; rw [hg]
          exact ⟨q, false, heap_set1 HBK1.out _, HRD.out.size, rfl⟩
    · subst ho
      go_wp2
      go_ret
      obtain ⟨h1, h2, h3⟩ := fin.out (x := 0) (by simp) rfl
      exact ⟨0, rfl, h1, h2, h3⟩
set_option maxHeartbeats 2000000 in
set_option maxRecDepth 100000 in
theorem l03Var_any (c : Nat) (s : ByteArray) (st : St) (w : World) (h : RdAt 90 c s st w) (hs : s.size ≤ 1048576) :
    Calls Try.prog 64 #[.pointer (some ⟨c, 0, none⟩)] w fun e w' => ∃ x : Nat, e = .returned (.int .i64 (x : Int)) ∧ Hid (x = (rn st 1000000000).1) ∧ Hid (RdAt 90 c s (rn st 1000000000).2 w') ∧ Hid (KeptBut c w w') := by
  obtain ⟨p, f, hb, hp, rfl⟩ := h
  obtain ⟨n, q, ok, HR⟩ := read1 s p 1000000000 f hp
  have HRD : Hid (Read1 s p 1000000000 f n q ok) := HR
  have c0 : w.cell? ⟨c, 0, none⟩ = some (.string s) := by rw [Lib.cell_of_heap hb]; rfl
  have c1 : w.cell? ⟨c, 1, none⟩ = some (.int .i64 (p : Int)) := by rw [Lib.cell_of_heap hb]; rfl
  have HLT : Hid (c < w.heap.size) := (Array.getElem?_eq_some_iff.1 hb).1
  have HBK : Hid (w.heap[c]? = some (.cells #[.string s, .int .i64 (p : Int), .bool f] 90 (0, 0))) := hb
  have HC : Hid (∀ w0, Below w.heap.size w w0 → Calls Try.prog 100 #[.string s, .int .i64 (p : Int)] w0 fun e w' => e = .returned (.tuple #[.int .i64 (n : Int), .int .i64 (q : Int), .bool ok]) ∧ Hid (Below w.heap.size w w') ∧ (w'.cell? ⟨c, 0, none⟩ = some (.string s) ∧ w'.cell? ⟨c, 1, none⟩ = some (.int .i64 (p : Int)))) := by
    intro w0 hw
    refine (sp.sReadVar_any s p w0 hs hp).mono ?_
    rintro e w' ⟨rfl, hb'⟩
    have hk := hw.trans (hb'.mono hw.size)
    refine ⟨?_, hk, cell_below c0 hk HLT.out, cell_below c1 hk HLT.out⟩
    cases ok
    · obtain ⟨h1, rfl, rfl⟩ := HR.no rfl
      rw [h1]; rfl
    · rw [HR.yes rfl]; rfl
  have hnm : (n : Int) ≤ 1000000000 := by have := HR.num; omega
  have HPS : Hid (p ≤ s.size) := hp
  clear HR hb hp
  go_enter Try.func64, Try.ntmps64
  go_wp2_with fail
  go_region_held (fun w' => w'.cell? ⟨c, 0, none⟩ = some (.string s) ∧ w'.cell? ⟨c, 1, none⟩ = some (.int .i64 (p : Int))) (first | exact ⟨c0, c1⟩ | exact hk1) ((go_at_call 100; refine (HC.out _ ((Below.refl _ _).drew)).mono ?_; rintro e w1 ⟨rfl, hb1, hk1⟩))
  have hbk1 : w1.heap[c]? = some (.cells #[.string s, .int .i64 (p : Int), .bool f] 90 (0, 0)) := (hb1.out.block c HLT.out).trans HBK.out
  have HBK1 : Hid (w1.heap[c]? = some (.cells #[.string s, .int .i64 (p : Int), .bool f] 90 (0, 0))) := hbk1
  have HKB : Hid (KeptBut c w w1) := (KeptBut.refl c w).below hb1.out
  have e1 : w1.cell? ⟨c, 1, none⟩ = some (.int .i64 (p : Int)) := by rw [Lib.cell_of_heap hbk1]; rfl
  have e2 : w1.cell? ⟨c, 2, none⟩ = some (.bool f) := by rw [Lib.cell_of_heap hbk1]; rfl
  have f1 : w1.frozen? ⟨c, 1, none⟩ = false := Lib.frozen_of_heap hbk1 1
  have f2 : w1.frozen? ⟨c, 2, none⟩ = false := Lib.frozen_of_heap hbk1 2
  clear hk1 hb1 hbk1 c0 c1 HC
  have fin : Hid (∀ {x : Nat}, (f = true ∨ ok = false ∨ 1000000000 < n) → x = 0 → x = (rn (if f = true then none else some (s.data.toList.drop p)) 1000000000).1 ∧ RdAt 90 c s (rn (if f = true then none else some (s.data.toList.drop p)) 1000000000).2 (w1.setCell ⟨c, 2, none⟩ (.bool true)) ∧ KeptBut c w (w1.setCell ⟨c, 2, none⟩ (.bool true))) := by
    intro x hor hx
    rw [HRD.out.bad hor]
    exact ⟨hx, ⟨p, true, heap_set2 HBK1.out _, HPS.out, rfl⟩, HKB.out.setCell _⟩
  rcases Bool.eq_false_or_eq_true f with hf | hf
  · subst hf
    go_wp2
    go_ret
    obtain ⟨h1, h2, h3⟩ := fin.out (x := 0) (by simp) rfl
    exact ⟨0, rfl, h1, h2, h3⟩
  · subst hf
    rcases Bool.eq_false_or_eq_true ok with ho | ho
    · subst ho
      go_wp2
      go_ret
      have hg := HRD.out.good rfl rfl (by omega)
      refine ⟨n, rfl, ?_, ?_, HKB.out.setCell _⟩
      · show n = (rn (some _) 1000000000).1; rw [hg]
      · show RdAt 90 c s (rn (some _) 1000000000).2 _; rw [hg]
        exact ⟨q, false, heap_set1 HBK1.out _, HRD.out.size, rfl⟩
    · subst ho
      go_wp2
      go_ret
      obtain ⟨h1, h2, h3⟩ := fin.out (x := 0) (by simp) rfl
      exact ⟨0, rfl, h1, h2, h3⟩

set_option maxHeartbeats 1000000 in
set_option maxRecDepth 100000 in
theorem isAtEnd_any (c : Nat) (s : ByteArray) (st : St) (r : Bool) (w : World) (h : RdAt 80 c s st w) (hr : r = decide (st = some [])) :
    Calls Try.prog 58 #[.pointer (some ⟨c, 0, none⟩)] w fun e w' => e = .returned (.bool r) ∧ Below w.heap.size w w' := by
  obtain ⟨p, f, hb, hp, rfl⟩ := h
  have c0 : w.cell? ⟨c, 0, none⟩ = some (.string s) := by rw [Lib.cell_of_heap hb]; rfl
  have c1 : w.cell? ⟨c, 1, none⟩ = some (.int .i64 (p : Int)) := by rw [Lib.cell_of_heap hb]; rfl
  have c2 : w.cell? ⟨c, 2, none⟩ = some (.bool f) := by rw [Lib.cell_of_heap hb]; rfl
  clear hb
  rcases Bool.eq_false_or_eq_true f with hf | hf
  · subst hf
    obtain rfl : r = false := by rw [hr]; simp
    clear hr hp
    go_enter Try.func58, Try.ntmps58
    go_wp2_with fail
    go_quiet (fail)
    go_wp2
    go_ret
    exact ⟨rfl, below_drewN (Below.refl _ _) _⟩
  · subst hf
    have hdr : (some (s.data.toList.drop p) = some []) ↔ p = s.size := by
      rw [Option.some.injEq, List.drop_eq_nil_iff, Array.length_toList]
      have e : s.data.size = s.size := rfl
      omega
    by_cases he : p = s.size
    · obtain rfl : r = true := by rw [hr]; exact decide_eq_true (hdr.2 he)
      clear hr hp hdr
      subst he
      go_enter Try.func58, Try.ntmps58
      go_wp2_with fail
      go_quiet (fail)
      go_wp2
      go_ret
      exact ⟨rfl, below_drewN (Below.refl _ _) _⟩
    · obtain rfl : r = false := by rw [hr]; exact decide_eq_false (fun h => he (hdr.1 h))
      have he1 : decide ((p : Int) = (s.size : Int)) = false := by simp; omega
      have he2 : ((p : Int) == (s.size : Int)) = false := by simp; omega
      clear hr hp hdr
      go_enter Try.func58, Try.ntmps58
      go_wp2_with fail
      go_quiet (fail)
      go_wp2
      go_ret
      exact ⟨rfl, below_drewN (Below.refl _ _) _⟩
end Go.Proofs.Ytelikebpddhncaa
