/- Merged: ScanE. -/
import Derived.Test.YtjbbnlcghnjlfaaDoorGGpsWeeks22
import Derived.IntWalk
import Derived.Test.YtjbbnlcghnjlfaaDoorGGpsWeeks20
import Derived.Deep.OwnRows
namespace Go.Proofs.YtjbbnlcghnjlfaaDoor
open Go.RowKit
set_option linter.unusedVariables false

/-- Figures: the number, where it stands then, the error then. -/
def fgN (r : List UInt8) (e a b : Int) : Int := if e = 0 then ((tkN r a b mx : Nat) : Int) else 0
def fgK (k : Nat) (r : List UInt8) (e a b : Int) : Nat := if e = 0 then k + tkK r a b mx else k
end Go.Proofs.YtjbbnlcghnjlfaaDoor
