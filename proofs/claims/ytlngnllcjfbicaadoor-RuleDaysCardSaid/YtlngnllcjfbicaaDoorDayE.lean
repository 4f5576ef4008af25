/- The document's answer for days: Year, Leap, Days, Month, Check, Start, First, Last, Weekday. -/
import Derived.Test.YtlngnllcjfbicaaDoorDayM
import Derived.Test.YtlngnllcjfbicaaDoorErr
import Derived.Lib.LaidTab
import Derived.Lib.SmallJoins
import Derived.Deep.LoopGhost
import Derived.Deep.Draws
import Derived.Deep.QuietTactic
import Derived.BigQuiet
namespace Go.Proofs.YtlngnllcjfbicaaDoor
open Go.RowKit
set_option linter.unusedVariables false

theorem rleap_any (y : Int) (w : World) : Calls Tryd.prog 59 #[.int .i64 y] w fun e w' => e = .returned (.bool (lp y)) ∧ w = w' := by
  have h4 := tm_zero y 4; have h100 := tm_zero y 100; have h400 := tm_zero y 400
  by_cases c : y % 400 = 0
  · rw [decide_eq_true c] at h400
    rw [lp_yes.2 ⟨by omega, Or.inr c⟩]
    clear c h4 h100
    go_enter Tryd.func59, Tryd.ntmps59
    go_wp2
    go_ret
    exact ⟨rfl, rfl⟩
  · rw [decide_eq_false c] at h400
    by_cases a : y % 4 = 0
    · rw [decide_eq_true a] at h4
      by_cases b : y % 100 = 0
      · rw [decide_eq_true b] at h100
        have h100' : (y.tmod 100 != 0) = false := by rw [bne, h100]; rfl
        rw [lp_no.2 (by omega)]
        clear a b c
        go_enter Tryd.func59, Tryd.ntmps59
        go_wp2
        go_ret
        exact ⟨rfl, rfl⟩
      · rw [decide_eq_false b] at h100
        have h100' : (y.tmod 100 != 0) = true := by rw [bne, h100]; rfl
        rw [lp_yes.2 ⟨a, Or.inl b⟩]
        clear a b c
        go_enter Tryd.func59, Tryd.ntmps59
        go_wp2
        go_ret
        exact ⟨rfl, rfl⟩
    · rw [decide_eq_false a] at h4
      rw [lp_no.2 (by omega)]
      clear a c h100
      go_enter Tryd.func59, Tryd.ntmps59
      go_wp2
      go_ret
      exact ⟨rfl, rfl⟩

theorem rdays_any (y : Int) (w : World) : Calls Tryd.prog 58 #[.int .i64 y] w fun e w' => e = .returned (.int .i64 (yd y)) ∧ w = w' := by
  have hL := rleap_any y w
  have e : yd y = if lp y = true then 366 else 365 := rfl
  rw [e]; clear e
  cases hl : lp y
  all_goals
    rw [hl] at hL
    clear hl
    go_enter Tryd.func58, Tryd.ntmps58
    go_wp2_with (go_at_call 59; refine hL.mono ?_; rintro e w' ⟨rfl, rfl⟩)
    go_ret
    exact ⟨rfl, rfl⟩

set_option maxHeartbeats 2000000 in
theorem rmonth_any (y m : Int) (w : World) (h : 1 ≤ m) (h' : m ≤ 12) : Calls Tryd.prog 33 #[.int .i64 y, .int .i64 m] w fun e w' => e = .returned (.int .i64 (ml y m)) ∧ Below w.heap.size w w' := by
  rw [ml_is y h h']
  have hL := fun w => rleap_any y w
  generalize lp y = l at *
  have HL := Lib.hid hL; clear hL
  rcases twelve h h' with rfl | rfl | rfl | rfl | rfl | rfl | rfl | rfl | rfl | rfl | rfl | rfl
  all_goals
    cases l
    all_goals
      clear h h'
      go_enter Tryd.func33, Tryd.ntmps33
      go_wp2_with (go_at_call 59; refine (HL.out _).mono ?_; rintro e w' ⟨rfl, rfl⟩)
      go_ret
      exact ⟨rfl, by go_grown⟩

end Go.Proofs.YtlngnllcjfbicaaDoor
