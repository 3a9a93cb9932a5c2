/-
  What the walks of this seat share: a byte as a cell, the decimal numeral's last figure, a slice of bytes of the call's own made to a string, spec.l01Figure.
-/
import Derived.Test.YtcbebilhbghclaaDoorRows
import Derived.WalkKit
import Derived.WalkSpells
import Derived.WalkLawsBesides
import Derived.Deep.AppendLies
import Derived.Lib.ItoaNum
import Derived.Lib.Strings
namespace Go.Proofs.YtcbebilhbghclaaDoor
open Go.RowKit

theorem Tryd.info5 : (Tryd.prog.info? 5).map (fun i => (i.zero, i.size, i.bytes)) = some (some (.int .u8 0), 1, 1) := by kernel_rfl

/-- a byte as a cell -/
def bv (b : UInt8) : Value := .int .u8 (b.toNat : Int)

/-- the figure of a half -/
def fig (x : Nat) : UInt8 := if x < 10 then UInt8.ofNat (48 + x) else UInt8.ofNat (87 + x)
def figI (x : Int) : Int := ((fig x.toNat).toNat : Int)

set_option maxHeartbeats 400000 in
theorem l01Figure_any (x : Int) (w : World) (h0 : 0 ≤ x) (h1 : x < 16) :
    Calls Tryd.prog 34 #[.int .i64 x] w fun e w' => e = .returned (.int .u8 (figI x)) ∧ w = w' := by
  by_cases h : x < 10
  · have HF : Hid (figI x = 48 + x) := by
      show figI x = 48 + x
      unfold figI fig
      rw [if_pos (by omega)]
      simp; omega
    go_enter Tryd.func34, Tryd.ntmps34
    go_wp2
    go_ret
    exact ⟨by rw [HF.out]; rfl, rfl⟩
  · have HF : Hid (figI x = 97 + x - 10) := by
      show figI x = 97 + x - 10
      unfold figI fig
      rw [if_neg (by omega)]
      simp; omega
    go_enter Tryd.func34, Tryd.ntmps34
    go_wp2
    go_ret
    exact ⟨by rw [HF.out]; rfl, rfl⟩

/-- the numeral of u, nothing for 0 -/
def digsOf (u : Nat) : List UInt8 := if u = 0 then [] else Lib.decDigits u
theorem dec_small {u : Nat} (h : u < 10) : Lib.decDigits u = [UInt8.ofNat (48 + u)] := by rw [Lib.decDigits, dif_pos h]
theorem dec_big {u : Nat} (h : ¬ u < 10) : Lib.decDigits u = Lib.decDigits (u / 10) ++ [UInt8.ofNat (48 + u % 10)] := by rw [Lib.decDigits, dif_neg h]
theorem digs_step {u : Nat} (h : u ≠ 0) : digsOf u = digsOf (u / 10) ++ [fig (u % 10)] := by
  have hf : fig (u % 10) = UInt8.ofNat (48 + u % 10) := by unfold fig; rw [if_pos (by omega)]
  unfold digsOf
  rw [if_neg h, hf]
  by_cases h1 : u < 10
  · rw [dec_small h1, if_pos (by omega), show u % 10 = u by omega]; rfl
  · rw [dec_big h1, if_neg (by omega)]
theorem dec_len : ∀ (k u : Nat), u < 10 ^ k → (Lib.decDigits u).length ≤ k + 1
  | 0, u, h => by rw [dec_small (by simp at h; omega)]; simp
  | k + 1, u, h => by
    by_cases h1 : u < 10
    · rw [dec_small h1]; simp
    · rw [dec_big h1]
      have := dec_len k (u / 10) (by rw [Nat.pow_succ] at h; omega)
      simp; omega

end Go.Proofs.YtcbebilhbghclaaDoor
