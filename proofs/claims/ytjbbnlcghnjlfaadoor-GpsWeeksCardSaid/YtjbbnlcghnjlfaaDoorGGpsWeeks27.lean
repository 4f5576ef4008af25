/- Merged: GpsI. -/
import Derived.Test.YtjbbnlcghnjlfaaDoorGGpsWeeks10
namespace Go.Proofs.YtjbbnlcghnjlfaaDoor
open Go.RowKit
set_option linter.unusedVariables false

theorem fixed14 : owN 1554595219 = 2048 ∧ owS 1554595219 = 0 ∧ owE 1554595219 = 0 ∧ fo 2048 10 = 0 := by decide
theorem alive14_any (w : World) : Calls Tryd.prog 5 #[] w fun e w' => e = .returned (.bool true) ∧ w = w' := by
  have q0 := fun op t W x k => guard_ev op t W x k
  have q1 := fun W k => eql_ev W k
  have q2 := fun W k => neq_ev W k
  obtain ⟨e1, e2, e3, e4⟩ := fixed14
  have H1 := Lib.hid (fun w => gof_any 1554595219 w (by decide))
  have H2 := Lib.hid (fun w => gshort_any 2048 w (by decide))
  rw [e1, e2, e3] at H1
  rw [e4] at H2
  clear e1 e2 e3 e4
  go_enter Tryd.func5, Tryd.ntmps5
  go_wp2_with first
    | (go_at_call 6; refine (H1.out _).mono ?_; rintro e w' ⟨rfl, rfl⟩)
    | (go_at_call 13; refine (H2.out _).mono ?_; rintro e w' ⟨rfl, rfl⟩)
  go_ret
  exact ⟨rfl, rfl⟩

end Go.Proofs.YtjbbnlcghnjlfaaDoor
