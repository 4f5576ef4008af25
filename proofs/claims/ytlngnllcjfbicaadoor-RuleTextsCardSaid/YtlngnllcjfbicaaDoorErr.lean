/- Errors' numbers, and errors held against nil. -/
import Derived.Test.YtlngnllcjfbicaaDoorRows
import Derived.Test.YtlngnllcjfbicaaDoorNumM
import Derived.WalkKit
import Derived.ProofKit
import Derived.OpenShut
import Derived.Handy
import Derived.Lib.Hide
import Derived.WalkSpells
import Derived.BigQuiet
import Derived.Deep.QuietTactic
import Derived.Outline
namespace Go.Proofs.YtlngnllcjfbicaaDoor
open Go.RowKit

/-! errors as numbers -/
theorem num_nil (w : World) : Calls Tryd.prog 13 #[.nilIface] w fun e w' => e = .returned (.int .i64 0) ∧ w = w' := by
  go_enter Tryd.func13, Tryd.ntmps13
  go_wp2
  go_ret
  exact ⟨rfl, rfl⟩
set_option maxRecDepth 100000 in
theorem err_yes (W : World) (v : Value) : (Instr.typeAssert (.iface 50 v) 26 50 true).run Tryd.prog W = .ok (.tuple #[v, .bool true]) W := by kernel_rfl
theorem num_some (k : Int) (w : World) (hk : 0 < k) (hk' : k < 100) : Calls Tryd.prog 13 #[.iface 50 (.int .i64 k)] w fun e w' => e = .returned (.int .i64 k) ∧ w = w' := by
  have h0 : (k != 0) = true := bne_iff_ne.mpr (by omega)
  have h1 := err_yes w (.int .i64 k)
  go_enter Tryd.func13, Tryd.ntmps13
  go_wp2
  go_ret
  exact ⟨rfl, rfl⟩
theorem num_any (k : Int) (w : World) (hk : 0 ≤ k) (hk' : k < 100) : Calls Tryd.prog 13 #[ev k] w fun e w' => e = .returned (.int .i64 k) ∧ w = w' := by
  by_cases h : k = 0
  · subst h; exact num_nil w
  · rw [ev_pos (by omega)]; exact num_some k w (by omega) hk'
theorem is_any (k n : Int) (w : World) (hk : 0 ≤ k) (hk' : k < 100) : Calls Tryd.prog 23 #[ev k, .int .i64 n] w fun e w' => e = .returned (.bool (k == n)) ∧ w = w' := by
  go_enter Tryd.func23, Tryd.ntmps23
  go_wp2_with (go_at_call 13; refine (num_any _ _ hk hk').mono ?_; rintro e w' ⟨rfl, rfl⟩)
  go_ret
  exact ⟨rfl, rfl⟩

set_option maxRecDepth 100000 in
theorem eql_ev (W : World) (k : Int) : (binOp .eql 26 (ev k) .nilIface).run Tryd.prog W = .ok (.bool (k == 0)) W := by
  by_cases h : k = 0
  · subst h; kernel_rfl
  · have e : ev k = .iface 50 (.int .i64 k) := by unfold ev; rw [if_neg h]
    have hb : (k == 0) = false := by simpa using h
    rw [e, hb]
    exact (fun v => (by kernel_rfl : (binOp .eql 26 (.iface 50 v) .nilIface).run Tryd.prog W = .ok (.bool false) W)) _
set_option maxRecDepth 100000 in
theorem neq_ev (W : World) (k : Int) : (binOp .neq 26 (ev k) .nilIface).run Tryd.prog W = .ok (.bool (k != 0)) W := by
  by_cases h : k = 0
  · subst h; kernel_rfl
  · have e : ev k = .iface 50 (.int .i64 k) := by unfold ev; rw [if_neg h]
    have hb : (k != 0) = true := bne_iff_ne.mpr h
    rw [e, hb]
    exact (fun v => (by kernel_rfl : (binOp .neq 26 (.iface 50 v) .nilIface).run Tryd.prog W = .ok (.bool true) W)) _
theorem guard_ev (op : BinOp) (t : TypeId) (W : World) (x : Operand) (k : Int) : (eqGuard op t x (.const .nilIface) (ev k) .nilIface).run Tryd.prog W = .ok () W := by
  by_cases h : k = 0
  · subst h
    unfold eqGuard ev
    simp only [if_true]
    cases op <;> cases x <;> rfl
  · have e : ev k = .iface 50 (.int .i64 k) := by unfold ev; rw [if_neg h]
    rw [e]
    unfold eqGuard
    cases op <;> rfl
theorem bad_lo (z : Int) : 0 ≤ bad z ∧ bad z < 100 := by unfold bad; split <;> decide

end Go.Proofs.YtlngnllcjfbicaaDoor
