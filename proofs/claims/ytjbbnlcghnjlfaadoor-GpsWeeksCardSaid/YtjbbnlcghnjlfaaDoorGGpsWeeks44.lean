/- Merged: Tabs. -/
import Derived.Test.YtjbbnlcghnjlfaaDoorGGpsWeeks5
namespace Go.Proofs.YtjbbnlcghnjlfaaDoor
open Go.RowKit

theorem tabT : Tryd.prog.underlying 131 = some (.array 20 59) := Tryd.underlying131
theorem tabE : Tryd.prog.underlying 59 = some (.int .u64) := Tryd.underlying59
end Go.Proofs.YtjbbnlcghnjlfaaDoor
