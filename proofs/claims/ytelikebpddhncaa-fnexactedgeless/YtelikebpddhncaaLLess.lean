/-
  The walk of FnExactEdgeLess.
-/
import Derived.Test.YtelikebpddhncaaEdC
namespace Go.Proofs.Ytelikebpddhncaa
open Go.RowKit

set_option maxHeartbeats 4000000 in
set_option maxRecDepth 100000 in
theorem law_7 (x y : Ed) (w : World) : Calls Try.prog 7 #[ev x, ev y] w fun e w' => e = .returned (.bool true) ∧ Below w.heap.size w w' := by
  obtain ⟨r, HR⟩ : ∃ r : Bool, Hid (r = ltE x y) := ⟨_, rfl⟩
  obtain ⟨x0, x1, x2⟩ := x
  obtain ⟨y0, y1, y2⟩ := y
  go_enter Try.func7, Try.ntmps7
  go_wp2_with fail
  obtain ⟨W, HW⟩ : ∃ W, Hid (W = ((w.alloc (Obj.cells #[.int .i64 x0, .int .u8 x1, .int .i64 x2] 53)).alloc (Obj.cells #[.int .i64 y0, .int .u8 y1, .int .i64 y2] 53))) := ⟨_, rfl⟩
  rw [← HW.out]
  have HB : Hid (Below w.heap.size w W) := by show Below _ _ _; rw [HW.out]; exact below2 w _ _
  obtain ⟨a0, a1, a2⟩ : W.cell? ⟨w.heap.size, 0, none⟩ = some (.int .i64 x0) ∧ W.cell? ⟨w.heap.size, 1, none⟩ = some (.int .u8 x1) ∧ W.cell? ⟨w.heap.size, 2, none⟩ = some (.int .i64 x2) := by
    obtain ⟨h0, h1, h2⟩ := box_cells w (.int .i64 x0) (.int .u8 x1) (.int .i64 x2) 53 _ rfl
    rw [HW.out]
    exact ⟨cell_below h0 (below1 _ _) (by simp), cell_below h1 (below1 _ _) (by simp), cell_below h2 (below1 _ _) (by simp)⟩
  obtain ⟨b0, b1, b2⟩ : W.cell? ⟨w.heap.size + 1, 0, none⟩ = some (.int .i64 y0) ∧ W.cell? ⟨w.heap.size + 1, 1, none⟩ = some (.int .u8 y1) ∧ W.cell? ⟨w.heap.size + 1, 2, none⟩ = some (.int .i64 y2) := by
    rw [HW.out]
    exact box_cells _ _ _ _ 53 _ (by simp)
  have HK : Hid (∀ w', Below W.heap.size W w' → (w'.cell? ⟨w.heap.size, 0, none⟩ = some (.int .i64 x0) ∧ w'.cell? ⟨w.heap.size, 1, none⟩ = some (.int .u8 x1) ∧ w'.cell? ⟨w.heap.size, 2, none⟩ = some (.int .i64 x2) ∧ w'.cell? ⟨w.heap.size + 1, 0, none⟩ = some (.int .i64 y0) ∧ w'.cell? ⟨w.heap.size + 1, 1, none⟩ = some (.int .u8 y1) ∧ w'.cell? ⟨w.heap.size + 1, 2, none⟩ = some (.int .i64 y2))) := fun w' h =>
    ⟨cell_below a0 h (lt_of_cell a0), cell_below a1 h (lt_of_cell a1), cell_below a2 h (lt_of_cell a2), cell_below b0 h (lt_of_cell b0), cell_below b1 h (lt_of_cell b1), cell_below b2 h (lt_of_cell b2)⟩
  have T1 : Hid (∀ (z : Ed) w0, Below W.heap.size W w0 → Calls Try.prog 42 #[ev z] w0 fun e w' => e = .returned (ev z) ∧ Hid (Below W.heap.size W w') ∧ (w'.cell? ⟨w.heap.size, 0, none⟩ = some (.int .i64 x0) ∧ w'.cell? ⟨w.heap.size, 1, none⟩ = some (.int .u8 x1) ∧ w'.cell? ⟨w.heap.size, 2, none⟩ = some (.int .i64 x2) ∧ w'.cell? ⟨w.heap.size + 1, 0, none⟩ = some (.int .i64 y0) ∧ w'.cell? ⟨w.heap.size + 1, 1, none⟩ = some (.int .u8 y1) ∧ w'.cell? ⟨w.heap.size + 1, 2, none⟩ = some (.int .i64 y2))) := fun z w0 h =>
    (toEdge_any z w0).mono fun _ _ ⟨h1, h2⟩ => have hk := h.trans (h2.out.mono h.size); ⟨h1, hk, HK.out _ hk⟩
  have T2 : Hid (∀ w0, Below W.heap.size W w0 → Calls Try.prog 41 #[ev (x0, x1, x2), ev (y0, y1, y2)] w0 fun e w' => e = .returned (.bool r) ∧ Hid (Below W.heap.size W w') ∧ (w'.cell? ⟨w.heap.size, 0, none⟩ = some (.int .i64 x0) ∧ w'.cell? ⟨w.heap.size, 1, none⟩ = some (.int .u8 x1) ∧ w'.cell? ⟨w.heap.size, 2, none⟩ = some (.int .i64 x2) ∧ w'.cell? ⟨w.heap.size + 1, 0, none⟩ = some (.int .i64 y0) ∧ w'.cell? ⟨w.heap.size + 1, 1, none⟩ = some (.int .u8 y1) ∧ w'.cell? ⟨w.heap.size + 1, 2, none⟩ = some (.int .i64 y2))) := fun w0 h =>
    (specLess_edge _ _ r w0 HR.out).mono fun _ _ ⟨h1, h2⟩ => have hk := h.trans (h2.out.mono h.size); ⟨h1, hk, HK.out _ hk⟩
  have T3 : Hid (∀ w0, Below W.heap.size W w0 → Calls Try.prog 31 #[ev (x0, x1, x2), ev (y0, y1, y2)] w0 fun e w' => e = .returned (.bool r) ∧ Hid (Below W.heap.size W w') ∧ (w'.cell? ⟨w.heap.size, 0, none⟩ = some (.int .i64 x0) ∧ w'.cell? ⟨w.heap.size, 1, none⟩ = some (.int .u8 x1) ∧ w'.cell? ⟨w.heap.size, 2, none⟩ = some (.int .i64 x2) ∧ w'.cell? ⟨w.heap.size + 1, 0, none⟩ = some (.int .i64 y0) ∧ w'.cell? ⟨w.heap.size + 1, 1, none⟩ = some (.int .u8 y1) ∧ w'.cell? ⟨w.heap.size + 1, 2, none⟩ = some (.int .i64 y2))) := fun w0 h =>
    (edgeLess_any _ _ r w0 HR.out).mono fun _ _ ⟨h1, h2⟩ => have hk := h.trans (h2.out.mono h.size); ⟨h1, hk, HK.out _ hk⟩
  have K1 : True := trivial
  have K2 : True := trivial
  have K3 : True := trivial
  have K4 : True := trivial
  go_region_held3 (fun w' => w'.cell? ⟨w.heap.size, 0, none⟩ = some (.int .i64 x0) ∧ w'.cell? ⟨w.heap.size, 1, none⟩ = some (.int .u8 x1) ∧ w'.cell? ⟨w.heap.size, 2, none⟩ = some (.int .i64 x2) ∧ w'.cell? ⟨w.heap.size + 1, 0, none⟩ = some (.int .i64 y0) ∧ w'.cell? ⟨w.heap.size + 1, 1, none⟩ = some (.int .u8 y1) ∧ w'.cell? ⟨w.heap.size + 1, 2, none⟩ = some (.int .i64 y2)) (first | exact ⟨a0, a1, a2, b0, b1, b2⟩ | exact hk1 | exact hk2 | exact hk3) (first | (go_at_call 42; clear K1; refine (T1.out (x0, x1, x2) _ ((Below.refl _ _).drew)).mono ?_; rintro e w1 ⟨rfl, B1, hk1⟩) | (go_at_call 42; clear K2; refine (T1.out (y0, y1, y2) _ B1.out).mono ?_; rintro e w2 ⟨rfl, B2, hk2⟩) | (go_at_call 41; refine (T2.out _ B2.out).mono ?_; rintro e w3 ⟨rfl, B3, hk3⟩))
  obtain ⟨c0, c1, c2, d0, d1, d2⟩ := hk3
  clear hk1 hk2 B1 B2 a0 a1 a2 b0 b1 b2
  go_wp2_with fail
  go_region_held3 (fun w' => w'.cell? ⟨w.heap.size, 0, none⟩ = some (.int .i64 x0) ∧ w'.cell? ⟨w.heap.size, 1, none⟩ = some (.int .u8 x1) ∧ w'.cell? ⟨w.heap.size, 2, none⟩ = some (.int .i64 x2) ∧ w'.cell? ⟨w.heap.size + 1, 0, none⟩ = some (.int .i64 y0) ∧ w'.cell? ⟨w.heap.size + 1, 1, none⟩ = some (.int .u8 y1) ∧ w'.cell? ⟨w.heap.size + 1, 2, none⟩ = some (.int .i64 y2)) (first | exact ⟨c0, c1, c2, d0, d1, d2⟩ | exact hk4 | exact hk5 | exact hk6) (first | (go_at_call 42; clear K3; refine (T1.out (x0, x1, x2) _ B3.out.drew).mono ?_; rintro e w4 ⟨rfl, B4, hk4⟩) | (go_at_call 42; clear K4; refine (T1.out (y0, y1, y2) _ B4.out).mono ?_; rintro e w5 ⟨rfl, B5, hk5⟩) | (go_at_call 31; refine (T3.out _ B5.out).mono ?_; rintro e w6 ⟨rfl, B6, hk6⟩))
  clear hk4 hk5 hk6 B4 B5 B3 c0 c1 c2 d0 d1 d2
  go_wp2
  go_ret
  exact ⟨rfl, HB.out.trans (B6.out.mono HB.out.size)⟩
end Go.Proofs.Ytelikebpddhncaa
