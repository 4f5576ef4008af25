/- The types of the tables that the program lays ahead. -/
import Derived.Test.YtiamggjebaabkaaDoorErr
namespace Go.Proofs.YtiamggjebaabkaaDoor
open Go.RowKit

theorem endsT : Tryd.prog.underlying 138 = some (.array 13 3) := Tryd.underlying138
theorem endsE : Tryd.prog.underlying 3 = some (.int .i64) := Tryd.underlying3

end Go.Proofs.YtiamggjebaabkaaDoor
