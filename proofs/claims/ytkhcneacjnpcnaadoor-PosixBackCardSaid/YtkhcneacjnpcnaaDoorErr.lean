/- Errors' numbers, and errors held against nil. -/
import Derived.Test.YtkhcneacjnpcnaaDoorRows
import Derived.Test.YtkhcneacjnpcnaaDoorNumM
import Derived.WalkKit
import Derived.ProofKit
import Derived.OpenShut
import Derived.Handy
import Derived.Lib.Hide
import Derived.WalkSpells
import Derived.BigQuiet
import Derived.Deep.QuietTactic
import Derived.Outline
namespace Go.Proofs.YtkhcneacjnpcnaaDoor
open Go.RowKit

/-! errors as numbers -/
set_option maxRecDepth 100000 in
theorem err_yes (W : World) (v : Value) : (Instr.typeAssert (.iface 35 v) 29 35 true).run Tryd.prog W = .ok (.tuple #[v, .bool true]) W := by kernel_rfl
set_option maxRecDepth 100000 in
theorem eql_ev (W : World) (k : Int) : (binOp .eql 29 (ev k) .nilIface).run Tryd.prog W = .ok (.bool (k == 0)) W := by
  by_cases h : k = 0
  · subst h; kernel_rfl
  · have e : ev k = .iface 35 (.int .i64 k) := by unfold ev; rw [if_neg h]
    have hb : (k == 0) = false := by simpa using h
    rw [e, hb]
    exact (fun v => (by kernel_rfl : (binOp .eql 29 (.iface 35 v) .nilIface).run Tryd.prog W = .ok (.bool false) W)) _
set_option maxRecDepth 100000 in
theorem neq_ev (W : World) (k : Int) : (binOp .neq 29 (ev k) .nilIface).run Tryd.prog W = .ok (.bool (k != 0)) W := by
  by_cases h : k = 0
  · subst h; kernel_rfl
  · have e : ev k = .iface 35 (.int .i64 k) := by unfold ev; rw [if_neg h]
    have hb : (k != 0) = true := bne_iff_ne.mpr h
    rw [e, hb]
    exact (fun v => (by kernel_rfl : (binOp .neq 29 (.iface 35 v) .nilIface).run Tryd.prog W = .ok (.bool true) W)) _
theorem guard_ev (op : BinOp) (t : TypeId) (W : World) (x : Operand) (k : Int) : (eqGuard op t x (.const .nilIface) (ev k) .nilIface).run Tryd.prog W = .ok () W := by
  by_cases h : k = 0
  · subst h
    unfold eqGuard ev
    simp only [if_true]
    cases op <;> cases x <;> rfl
  · have e : ev k = .iface 35 (.int .i64 k) := by unfold ev; rw [if_neg h]
    rw [e]
    unfold eqGuard
    cases op <;> rfl
theorem bad_lo (z : Int) : 0 ≤ bad z ∧ bad z < 100 := by unfold bad; split <;> decide

end Go.Proofs.YtkhcneacjnpcnaaDoor
