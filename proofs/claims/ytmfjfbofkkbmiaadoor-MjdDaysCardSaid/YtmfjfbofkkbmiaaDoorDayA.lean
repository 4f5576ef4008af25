/- Package day: what needs no search: Leap, isYear, start, end, Days, Month, YearDay, FromYearDay, Start, Of, First, Last, Weekday. -/
import Derived.Test.YtmfjfbofkkbmiaaDoorDayM
import Derived.Test.YtmfjfbofkkbmiaaDoorErr
import Derived.Lib.LaidTab
import Derived.Lib.SmallJoins
namespace Go.Proofs.YtmfjfbofkkbmiaaDoor
open Go.RowKit
set_option linter.unusedVariables false

/-- The table of months' ends. -/
def Ends (w : World) : Prop := Lib.TabIs Tryd.prog w "horologe/day.ends" .i64 endsL
theorem start_any (y : Int) (w : World) (h : -20000 ≤ y) (h' : y ≤ 20001) : Calls Tryd.prog 35 #[.int .i64 y] w fun e w' => e = .returned (.int .i64 (st y)) ∧ w = w' := by
  have e : st y = -8024378 + 365 * (y + 20000) + ((y + 20000 + 3) / 4 - (y + 20000 + 99) / 100 + (y + 20000 + 399) / 400) := by unfold st; omega
  have E := Lib.hid e; clear e
  go_enter Tryd.func35, Tryd.ntmps35
  go_wp2
  go_ret
  exact ⟨ret1_eq (int_eq E.out.symm), rfl⟩

end Go.Proofs.YtmfjfbofkkbmiaaDoor
