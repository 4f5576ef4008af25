/- The types of the tables that the program lays ahead. -/
import Derived.Test.YtaahfkkcjfpieaaDoorErr
namespace Go.Proofs.YtaahfkkcjfpieaaDoor
open Go.RowKit

theorem endsT : Tryd.prog.underlying 86 = some (.array 13 3) := Tryd.underlying86
theorem endsE : Tryd.prog.underlying 3 = some (.int .i64) := Tryd.underlying3

end Go.Proofs.YtaahfkkcjfpieaaDoor
