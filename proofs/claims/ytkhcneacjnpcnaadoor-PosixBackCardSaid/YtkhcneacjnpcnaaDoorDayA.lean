/- Package day: what needs no search: Leap, isYear, start, end, Days, Month, YearDay, FromYearDay, Start, Of, First, Last, Weekday. -/
import Derived.Test.YtkhcneacjnpcnaaDoorDayM
import Derived.Test.YtkhcneacjnpcnaaDoorErr
import Derived.Lib.LaidTab
import Derived.Lib.SmallJoins
namespace Go.Proofs.YtkhcneacjnpcnaaDoor
open Go.RowKit
set_option linter.unusedVariables false

/-- The table of months' ends. -/
def Ends (w : World) : Prop := Lib.TabIs Tryd.prog w "horologe/day.ends" .i64 endsL
end Go.Proofs.YtkhcneacjnpcnaaDoor
