/-
  The table that the rows list: what a row's list gives of the table of four steps; that it reads behind a call as it read ahead of it; a world that holds it; the bytes that came in.
-/
import Derived.Test.YtigojleieihdoaaDoorCards
import Derived.Test.YtigojleieihdoaaDoorTie
import Derived.Test.YtigojleieihdoaaDoorSum
import Derived.ProofKit
import Derived.OpenShut
import Derived.ShutString
import Derived.ChangeVars
import Derived.ChangeOld
import Derived.Deep.DeepHandedRow
import Derived.Lib.LaidTab
namespace Go.Proofs.YtigojleieihdoaaDoor
open Go.ChangeShapes Go.WideShapes Go.ChangeAt Go.RowKit

theorem own : ownKnob Tryd.prog.godebug = none := by kernel_rfl
theorem laidOut : laidOutB Tryd.prog = true := by kernel_rfl
theorem gFour : Tryd.prog.globalNamed "loop.example/g00250/impl.fourSteps" = some 0 := by kernel_rfl
theorem gFourType : (Tryd.prog.globals[0]?).map (·.type) = some 116 := by kernel_rfl
theorem cells116 : Tryd.prog.cellsOf 116 = 16 := by kernel_rfl
theorem cells58 : Tryd.prog.cellsOf 58 = 1 := by kernel_rfl
def tabZ : List Int := tab16.map Int.ofNat
theorem fourDatum : (Rows.laid_loop_example_g00250_impl_fourSteps (H := Unit)) = Lib.tabData .u32 tabZ := by kernel_rfl
theorem tab_at (k : Nat) (hk : k < 16) : tabZ.getD k 0 = ((tab16.getD k 0 : Nat) : Int) := by
  have key : ∀ k, k < 16 → tabZ.getD k 0 = ((tab16.getD k 0 : Nat) : Int) := by decide
  exact key k hk

/-- what the rows list -/
theorem fourTab {W : World} (h : laidMetH Tryd.prog [("loop.example/g00250/impl.fourSteps", Rows.laid_loop_example_g00250_impl_fourSteps)] W) : FT W := by
  have h1 : laidMet Tryd.prog [("loop.example/g00250/impl.fourSteps", Rows.laid_loop_example_g00250_impl_fourSteps)] W := h
  rw [fourDatum] at h1
  have ht : Lib.TabIs Tryd.prog W "loop.example/g00250/impl.fourSteps" .u32 tabZ := Lib.tabIs_of_head (rest := []) gFour gFourType Tryd.underlying116 Tryd.underlying58 cells58 cells116 h1
  have hc : ∀ k, k < 16 → W.cell? ⟨0, k, none⟩ = some (.int .u32 ((tab16.getD k 0 : Nat) : Int)) := fun k hk => by rw [← tab_at k hk]; exact ht.cell gFour k hk
  refine ⟨?_, hc⟩
  have c0 := hc 0 (by omega)
  unfold World.cell? at c0
  rcases Nat.lt_or_ge 0 W.heap.size with h1 | h1
  · exact h1
  · simp [Array.getElem?_eq_none h1] at c0

/-- a listed variable reads behind a call that leaves old memory alone as it read ahead of it -/
theorem vars_stay {H : Type} {enc : TypeId × Value → H} {W W' : World} {gs : List (DataW H)} {q : List MemPlace} (h : DataW.TrodVars enc Tryd.prog W (fun _ => true) ["loop.example/g00250/impl.fourSteps"] gs q) (hb : Below W.heap.size W W') (h0 : 0 < W.heap.size) :
    DataW.TrodVars enc Tryd.prog W' (fun b => decide (b < W.heap.size)) ["loop.example/g00250/impl.fourSteps"] gs q := by
  obtain ⟨g, t, cs, fuel, d, p, rfl, hg, ht, hv, hd, rfl⟩ := trodVars_one h
  obtain rfl := Option.some.inj (gFour.symm.trans hg)
  obtain rfl := Option.some.inj (gFourType.symm.trans ht)
  have hr : Tryd.prog.readableRec 116 = true := by kernel_rfl
  have hlt : ∀ x ∈ p, x.block < W.heap.size := DataW.trod_lt fuel _ _ _ hd
  exact trodVars_mk1 hg ht (var?_below hb hg h0 hv) (DataW.trod_stays (kids_book laidOut hr) (book_sized hr) (fun h => by cases h) ⟨of_decide_eq_true (by kernel_rfl), book_self 116⟩ hd (fun x hx => hb.same (hlt x hx)) (fun x hx => by simpa using hlt x hx))
theorem vars_len {H : Type} {enc : TypeId × Value → H} {W : World} {gs : List (DataW H)} {q : List MemPlace} (h : DataW.TrodVars enc Tryd.prog W (fun _ => true) ["loop.example/g00250/impl.fourSteps"] gs q) : ∃ d, gs = [d] := by
  obtain ⟨g, t, cs, fuel, d, p, rfl, _⟩ := trodVars_one h
  exact ⟨d, rfl⟩

def litCell {H : Type} : DataW H → Value
  | .lit (.int k z) => .int k z
  | _ => .bool false
def tabCells {H : Type} : DataW H → Array Value
  | .agg l => (l.map litCell).toArray
  | _ => #[]
def fillCells (cs : Array Value) : Obj → Obj
  | .cells _ t frozen => .cells cs t frozen
  | o => o
/-- a world that holds the table -/
def fourWorld (w : World) : World :=
  { w with heap := w.heap.modify 0 (fillCells (tabCells (Rows.laid_loop_example_g00250_impl_fourSteps (H := Unit)))) }

end Go.Proofs.YtigojleieihdoaaDoor
