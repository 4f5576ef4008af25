/- The types of the tables that the program lays ahead. -/
import Derived.Test.YtjbbnlcghnjlfaaDoorErr
namespace Go.Proofs.YtjbbnlcghnjlfaaDoor
open Go.RowKit

theorem tabT : Tryd.prog.underlying 131 = some (.array 20 59) := Tryd.underlying131
theorem tabE : Tryd.prog.underlying 59 = some (.int .u64) := Tryd.underlying59
theorem endsE : Tryd.prog.underlying 3 = some (.int .i64) := Tryd.underlying3

end Go.Proofs.YtjbbnlcghnjlfaaDoor
