/- The types of the tables that the program lays ahead. -/
import Derived.Test.YtmfjfbofkkbmiaaDoorErr
namespace Go.Proofs.YtmfjfbofkkbmiaaDoor
open Go.RowKit

theorem tabT : Tryd.prog.underlying 119 = some (.array 20 72) := Tryd.underlying119
theorem tabE : Tryd.prog.underlying 72 = some (.int .u64) := Tryd.underlying72
theorem endsE : Tryd.prog.underlying 3 = some (.int .i64) := Tryd.underlying3

end Go.Proofs.YtmfjfbofkkbmiaaDoor
