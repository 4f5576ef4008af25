/- The types of the tables that the program lays ahead. -/
import Derived.Test.YtplibjgfdnbifaaDoorErr
namespace Go.Proofs.YtplibjgfdnbifaaDoor
open Go.RowKit

theorem tabT : Tryd.prog.underlying 126 = some (.array 20 87) := Tryd.underlying126
theorem tabE : Tryd.prog.underlying 87 = some (.int .u64) := Tryd.underlying87
theorem endsT : Tryd.prog.underlying 80 = some (.array 13 3) := Tryd.underlying80
theorem endsE : Tryd.prog.underlying 3 = some (.int .i64) := Tryd.underlying3

end Go.Proofs.YtplibjgfdnbifaaDoor
