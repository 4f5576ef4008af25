/- The types of the tables that the program lays ahead. -/
import Derived.Test.YtlngnllcjfbicaaDoorErr
namespace Go.Proofs.YtlngnllcjfbicaaDoor
open Go.RowKit

theorem tabT : Tryd.prog.underlying 140 = some (.array 20 111) := Tryd.underlying140
theorem tabE : Tryd.prog.underlying 111 = some (.int .u64) := Tryd.underlying111
theorem endsT : Tryd.prog.underlying 97 = some (.array 13 3) := Tryd.underlying97
theorem endsE : Tryd.prog.underlying 3 = some (.int .i64) := Tryd.underlying3

end Go.Proofs.YtlngnllcjfbicaaDoor
