/- The types of the tables that the program lays ahead. -/
import Derived.Test.YtkhcneacjnpcnaaDoorErr
namespace Go.Proofs.YtkhcneacjnpcnaaDoor
open Go.RowKit

theorem tabT : Tryd.prog.underlying 115 = some (.array 20 88) := Tryd.underlying115
theorem tabE : Tryd.prog.underlying 88 = some (.int .u64) := Tryd.underlying88
theorem endsE : Tryd.prog.underlying 3 = some (.int .i64) := Tryd.underlying3

end Go.Proofs.YtkhcneacjnpcnaaDoor
