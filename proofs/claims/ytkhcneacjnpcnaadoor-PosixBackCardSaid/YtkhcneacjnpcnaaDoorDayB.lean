/- Package day: Days, Month, YearDay, FromYearDay, Start, Of, First, Last, Weekday. -/
import Derived.Test.YtkhcneacjnpcnaaDoorDayA
namespace Go.Proofs.YtkhcneacjnpcnaaDoor
open Go.RowKit
set_option linter.unusedVariables false

/-- An error that isn't nil. -/
theorem ne_z {k : Int} (h : k ≠ 0) : (k != 0) = true := bne_iff_ne.mpr h

/-! weekdays -/
end Go.Proofs.YtkhcneacjnpcnaaDoor
