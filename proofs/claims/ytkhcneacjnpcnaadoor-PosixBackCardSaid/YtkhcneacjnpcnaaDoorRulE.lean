/- Package rule: past, pastWeekly, Day, At. -/
import Derived.Test.YtkhcneacjnpcnaaDoorRulD
import Derived.Test.YtkhcneacjnpcnaaDoorDayB
namespace Go.Proofs.YtkhcneacjnpcnaaDoor
open Go.RowKit
set_option linter.unusedVariables false
set_option linter.unusedSimpArgs false

theorem near16 {z : Int} (h : -100000000 ≤ z ∧ z ≤ 100000000) : IntKind.i64.wrap z = z := IntWalk.i64_in _ (by omega)
theorem below_dn16 {B : Nat} {a w : World} (h : Below B a w) (n : Nat) : Below B a (w.drewN n) := ⟨h.os, h.tape, h.output, h.size, h.block⟩
theorem tmod_nn {x : Int} (h : 0 ≤ x) : x.tmod 7 = x % 7 := Int.tmod_eq_emod_of_nonneg h

/-! ### how many days of a year are over -/
/-! ### Day, At -/
theorem yr_wi (y : Int) : wiB y (-10001) 10001 = decide (yrP y) := by
  unfold yrP
  cases h : wiB y (-10001) 10001 with
  | false => exact (decide_eq_false (wiB_no.1 h)).symm
  | true => exact (decide_eq_true (wiB_yes.1 h)).symm
end Go.Proofs.YtkhcneacjnpcnaaDoor

