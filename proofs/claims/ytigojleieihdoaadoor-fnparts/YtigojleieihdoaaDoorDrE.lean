/-
  A drawn edge: spec.l04Edge.
-/
import Derived.Test.YtigojleieihdoaaDoorPlc
import Derived.Test.YtigojleieihdoaaDoorGRdI
namespace Go.Proofs.YtigojleieihdoaaDoor
open Go.RowKit

theorem Blk.keptBut {w w' : World} {b n g : Nat} {f : Nat → Value} (h : Blk w b n f) (hk : KeptBut g w w') (hne : b ≠ g) : Blk w' b n f := h.of_block (hk.block b h.lt hne)
theorem EdgesIn.keptBut {lo hi g : Nat} {w w' : World} {a : Option Addr} {l : List Ed} (h : EdgesIn lo hi w a l) (hk : KeptBut g w w') (hg : g < lo) (hh : hi ≤ w.heap.size) : EdgesIn lo hi w' a l :=
  h.kept hk.toP hh (fun k h1 _ e => by omega)
theorem CurL.lt {p n cap : Nat} {ao : Option Addr} {w : World} (h : CurL p ao n cap w) : p < w.heap.size := by
  obtain ⟨⟨i, x, hc⟩, _⟩ := h; exact hc.lt
theorem KeptBut.setOut {g b j : Nat} {w w1 : World} (h : KeptBut g w w1) (hb : w.heap.size ≤ b) (u : Value) : KeptBut g w (w1.setCell ⟨b, j, none⟩ u) := by
  have h2 : Below b w1 (w1.setCell ⟨b, j, none⟩ u) := (Below.refl b w1).setCell (Nat.le_refl _) u
  exact ⟨h2.os.trans h.os, h2.tape.trans h.tape, h2.output.trans h.output, Nat.le_trans h.size h2.size, fun k hk hg => (h2.block k (by omega)).trans (h.block k hk hg)⟩

/-- an edge with ends below m and a label of a to c -/
def edIn (m : Int) (x : Ed) : Prop := (0 ≤ x.1 ∧ x.1 < m) ∧ (97 ≤ x.2.1 ∧ x.2.1 ≤ 99) ∧ (0 ≤ x.2.2 ∧ x.2.2 < m)

set_option maxHeartbeats 1000000 in
set_option maxRecDepth 100000 in
theorem l04Edge_any (w : World) (p n cap : Nat) (ao : Option Addr) (m : Int) (h0 : 0 < m) (h1 : m ≤ 1000000) (hc : CurL p ao n cap w) :
    Calls Tryd.prog 55 #[.pointer (some ⟨p, 0, none⟩), .int .i64 m] w fun e w' => ∃ x : Ed, e = .returned (ev x) ∧ Hid (edIn m x) ∧ Hid (CurL p ao n cap w') ∧ Hid (KeptBut p w w') := by
  have HP : Hid (p < w.heap.size) := hc.lt
  obtain ⟨B, HB⟩ : ∃ B, Hid (B = w.heap.size) := ⟨_, rfl⟩
  have HC : Hid (CurL p ao n cap w) := hc
  clear hc
  go_enter Tryd.func55, Tryd.ntmps55
  go_wp2_with fail
  rw [← HB.out]
  generalize hW : World.alloc _ _ = W
  have HC1 : Hid (CurL p ao n cap W) := by show CurL _ _ _ _ _; rw [← hW]; exact HC.out.below (below1 w _) HP.out
  have HK1 : Hid (KeptBut p w W) := by show KeptBut _ _ _; rw [← hW]; exact (KeptBut.refl p w).below (below1 w _)
  have HR1 : Hid (Blk W B 3 (fun i => if i = 0 then .int .i64 0 else if i = 1 then .int .u8 0 else .int .i64 0)) := by show Blk _ _ _ _; rw [← hW]; exact blk_three w B HB.out _ _ _ _
  have HNE : Hid (B ≠ p) := by show B ≠ p; have := HP.out; have := HB.out; omega
  clear hW
  refine (HC1.out.draw m h0 (by omega)).mono ?_
  rintro e w2 ⟨x0, rfl, x00, x01, HC2, HK2⟩
  have HR2 : Hid (Blk w2 B 3 _) := HR1.out.keptBut HK2.out HNE.out
  have HKK2 : Hid (KeptBut p w w2) := HK1.out.trans HK2.out
  clear HC1 HK1 HR1 HK2
  go_wp2_with fail
  refine (HC2.out.draw 3 (by omega) (by omega)).mono ?_
  rintro e w3 ⟨x1, rfl, x10, x11, HC3, HK3⟩
  have HR3 : Hid (Blk w3 B 3 _) := HR2.out.keptBut HK3.out HNE.out
  have HKK3 : Hid (KeptBut p w w3) := HKK2.out.trans HK3.out
  clear HC2 HKK2 HR2 HK3
  go_wp2_with fail
  refine (HC3.out.draw m h0 (by omega)).mono ?_
  rintro e w4 ⟨x2, rfl, x20, x21, HC4, HK4⟩
  have HR4 : Hid (Blk w4 B 3 _) := HR3.out.keptBut HK4.out HNE.out
  have HKK4 : Hid (KeptBut p w w4) := HKK3.out.trans HK4.out
  clear HC3 HKK3 HR3 HK4
  have r0 : w4.cell? ⟨B, 0, none⟩ = some (.int .i64 0) := HR4.out.cell (i := 0) (by omega)
  have r1 : w4.cell? ⟨B, 1, none⟩ = some (.int .u8 0) := HR4.out.cell (i := 1) (by omega)
  have r2 : w4.cell? ⟨B, 2, none⟩ = some (.int .i64 0) := HR4.out.cell (i := 2) (by omega)
  have f0 := HR4.out.frozen 0
  have f1 := HR4.out.frozen 1
  have f2 := HR4.out.frozen 2
  have hwr : IntKind.u8.wrap (97 + x1) = 97 + x1 := by rw [IntKind.wrap_u8]; omega
  go_wp2
  refine bodyPost_ret (v := .agg #[.int .i64 x0, .int .u8 (97 + x1), .int .i64 x2]) (by simp [results, Tryd.results55, go_sem, r0, r1, r2]) rfl ?_
  have hsz : w.heap.size ≤ B := by rw [HB.out]; exact Nat.le_refl _
  have hpb : p < B := by have := HP.out; omega
  refine ⟨(x0, 97 + x1, x2), rfl, ⟨⟨x00, x01⟩, ⟨by show (97 : Int) ≤ 97 + x1; omega, by show 97 + x1 ≤ (99 : Int); omega⟩, ⟨x20, x21⟩⟩, ?_, ?_⟩
  · exact HC4.out.below (((((Below.refl B w4).setCell (Nat.le_refl _) _).setCell (Nat.le_refl _) _).setCell (Nat.le_refl _) _)) hpb
  · exact ((HKK4.out.setOut hsz _).setOut hsz _).setOut hsz _
end Go.Proofs.YtigojleieihdoaaDoor
