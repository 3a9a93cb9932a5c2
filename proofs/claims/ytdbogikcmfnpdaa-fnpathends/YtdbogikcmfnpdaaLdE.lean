/-
  Where a shape leads: impl.leadsOf.
-/
import Derived.Test.YtdbogikcmfnpdaaLdM
import Derived.Test.YtdbogikcmfnpdaaTnS
import Derived.Test.YtdbogikcmfnpdaaShpB
namespace Go.Proofs.Ytdbogikcmfnpdaa
open Go.RowKit

theorem wp_load_midH {P : Program} {ops : Array Oper} {op : Oper} {a : Act} {w : World} {K : Act → World → Prop} {Q : Exit → Act → World → Prop} {E : Prop} (hw : Region.wanted op (yielded ops a.tmps) = true) (ty : TypeId) (x : Operand) (ho : op.op = .load ty x)
    (b o : Nat) (hx : a.eval x = .pointer (some ⟨b, o, none⟩)) (cs : List Value) (d : TypeDesc) (hc : w.rangeAt b o cs)
    (hu : P.underlying ty = some d) (hd : d.isRow = true) (hi : (P.info? ty).map (·.size) = some cs.length)
    (h : K (a.put op.dst (.agg cs.toArray)) w) : if Region.wanted op (yielded ops a.tmps) = true then Oper.wp P op a w K Q else E := by
  rw [if_pos hw]
  exact wp_load_mid ty x ho b o hx cs d hc hu hd hi h
theorem wpList_here {P : Program} {ops : Array Oper} {rest : List Oper} {op : Oper} {a : Act} {w : World} {Q : Exit → Act → World → Prop} (h : wpList P ops Q (op :: rest) a w) : wpList P ops Q (op :: rest) a w := h
theorem idF_lt {i : Nat} (hi : i < 13) : idF i < 65536 := by
  have := Nat.pow_lt_pow_right (a := 2) (by omega) (show i < 16 by omega)
  simpa [idF] using this
theorem getD_lt {ks : List Int} {m : Nat} {k : Nat} (h : kidsOk k ks = true) (hm : m < ks.length) : 0 ≤ ks.getD m 0 ∧ ks.getD m 0 < (k : Int) := by
  have := List.all_eq_true.1 h (ks.getD m 0) (by simp [List.getD, hm])
  simpa using this
theorem fold_take {α : Type} (f : α → Int → α) (a : α) {ks : List Int} {m : Nat} (hm : m < ks.length) : (ks.take (m + 1)).foldl f a = f ((ks.take m).foldl f a) (ks.getD m 0) := by
  rw [take_snocI ks hm, List.foldl_append]; rfl

theorem ta_step_step (v : Value) (w : World) : (Instr.typeAssert (.iface 135 v) 114 135 true).run Try.prog w = .ok (.tuple #[v, .bool true]) w := by kernel_rfl
theorem ta_row_step (v : Value) (w : World) : (Instr.typeAssert (.iface 139 v) 114 135 true).run Try.prog w = .ok (.tuple #[.agg #[.int .u8 0], .bool false]) w := by kernel_rfl
theorem ta_row_row (v : Value) (w : World) : (Instr.typeAssert (.iface 139 v) 114 139 true).run Try.prog w = .ok (.tuple #[v, .bool true]) w := by kernel_rfl
theorem ta_alt_step (v : Value) (w : World) : (Instr.typeAssert (.iface 140 v) 114 135 true).run Try.prog w = .ok (.tuple #[.agg #[.int .u8 0], .bool false]) w := by kernel_rfl
theorem ta_alt_row (v : Value) (w : World) : (Instr.typeAssert (.iface 140 v) 114 139 true).run Try.prog w = .ok (.tuple #[.agg #[.slice none 0 0], .bool false]) w := by kernel_rfl
theorem ta_alt_alt (v : Value) (w : World) : (Instr.typeAssert (.iface 140 v) 114 140 true).run Try.prog w = .ok (.tuple #[v, .bool true]) w := by kernel_rfl
theorem ta_star_step (v : Value) (w : World) : (Instr.typeAssert (.iface 144 v) 114 135 true).run Try.prog w = .ok (.tuple #[.agg #[.int .u8 0], .bool false]) w := by kernel_rfl
theorem ta_star_row (v : Value) (w : World) : (Instr.typeAssert (.iface 144 v) 114 139 true).run Try.prog w = .ok (.tuple #[.agg #[.slice none 0 0], .bool false]) w := by kernel_rfl
theorem ta_star_alt (v : Value) (w : World) : (Instr.typeAssert (.iface 144 v) 114 140 true).run Try.prog w = .ok (.tuple #[.agg #[.slice none 0 0], .bool false]) w := by kernel_rfl
theorem ta_star_star (v : Value) (w : World) : (Instr.typeAssert (.iface 144 v) 114 144 true).run Try.prog w = .ok (.tuple #[v, .bool true]) w := by kernel_rfl
theorem ta_plus_step (v : Value) (w : World) : (Instr.typeAssert (.iface 145 v) 114 135 true).run Try.prog w = .ok (.tuple #[.agg #[.int .u8 0], .bool false]) w := by kernel_rfl
theorem ta_plus_row (v : Value) (w : World) : (Instr.typeAssert (.iface 145 v) 114 139 true).run Try.prog w = .ok (.tuple #[.agg #[.slice none 0 0], .bool false]) w := by kernel_rfl
theorem ta_plus_alt (v : Value) (w : World) : (Instr.typeAssert (.iface 145 v) 114 140 true).run Try.prog w = .ok (.tuple #[.agg #[.slice none 0 0], .bool false]) w := by kernel_rfl
theorem ta_plus_star (v : Value) (w : World) : (Instr.typeAssert (.iface 145 v) 114 144 true).run Try.prog w = .ok (.tuple #[.agg #[.int .i64 0], .bool false]) w := by kernel_rfl
theorem ta_plus_plus (v : Value) (w : World) : (Instr.typeAssert (.iface 145 v) 114 145 true).run Try.prog w = .ok (.tuple #[v, .bool true]) w := by kernel_rfl
theorem ta_opt_step (v : Value) (w : World) : (Instr.typeAssert (.iface 146 v) 114 135 true).run Try.prog w = .ok (.tuple #[.agg #[.int .u8 0], .bool false]) w := by kernel_rfl
theorem ta_opt_row (v : Value) (w : World) : (Instr.typeAssert (.iface 146 v) 114 139 true).run Try.prog w = .ok (.tuple #[.agg #[.slice none 0 0], .bool false]) w := by kernel_rfl
theorem ta_opt_alt (v : Value) (w : World) : (Instr.typeAssert (.iface 146 v) 114 140 true).run Try.prog w = .ok (.tuple #[.agg #[.slice none 0 0], .bool false]) w := by kernel_rfl
theorem ta_opt_star (v : Value) (w : World) : (Instr.typeAssert (.iface 146 v) 114 144 true).run Try.prog w = .ok (.tuple #[.agg #[.int .i64 0], .bool false]) w := by kernel_rfl
theorem ta_opt_plus (v : Value) (w : World) : (Instr.typeAssert (.iface 146 v) 114 145 true).run Try.prog w = .ok (.tuple #[.agg #[.int .i64 0], .bool false]) w := by kernel_rfl
theorem ta_opt_opt (v : Value) (w : World) : (Instr.typeAssert (.iface 146 v) 114 146 true).run Try.prog w = .ok (.tuple #[v, .bool true]) w := by kernel_rfl

end Go.Proofs.Ytdbogikcmfnpdaa
