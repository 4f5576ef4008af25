/- Merged: NumM. -/
import GoSem.Claim
import Derived.RowKit
import Derived.IntWalk
namespace Go.Proofs.YtkhcneacjnpcnaaGreatDoor
open Go.RowKit

/-- Does a number fit 64 bits? -/
def fits (z : Int) : Prop := -9223372036854775808 ≤ z ∧ z ≤ 9223372036854775807
instance (z : Int) : Decidable (fits z) := by unfold fits; infer_instance
/-- An error's value, by its number. -/
def ev (k : Int) : Value := if k = 0 then .nilIface else .iface 52 (.int .i64 k)

theorem ev_pos {k : Int} (h : 0 < k) : ev k = .iface 52 (.int .i64 k) := by unfold ev; rw [if_neg (by omega)]
theorem wf_fits {a : Int} (h : (Lit.int .i64 a).wf = true) : -9223372036854775808 ≤ a ∧ a ≤ 9223372036854775807 := by
  simp [Lit.wf, IntKind.min, IntKind.max, IntKind.signed, IntKind.bits] at h; omega

theorem ret2_eq {x x' y y' : Value} (h : x = x') (k : y = y') : Ending.returned (.tuple #[x, y]) = Ending.returned (.tuple #[x', y']) := by rw [h, k]
theorem int_eq {k : IntKind} {a b : Int} (h : a = b) : Value.int k a = Value.int k b := by rw [h]
theorem bool_eq {a b : Bool} (h : a = b) : Value.bool a = Value.bool b := by rw [h]
theorem ret1_eq {x x' : Value} (h : x = x') : Ending.returned x = Ending.returned x' := by rw [h]

/-! products -/
/-! quotients -/
end Go.Proofs.YtkhcneacjnpcnaaGreatDoor
