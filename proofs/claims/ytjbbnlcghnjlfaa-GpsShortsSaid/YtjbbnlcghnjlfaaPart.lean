/- Parts of slices of bytes. -/
import Derived.Test.YtjbbnlcghnjlfaaOwn
import Derived.Deep.OwnRows
namespace Go.Proofs.Ytjbbnlcghnjlfaa
open Go.RowKit Go.WideShapes Go.ChangeShapes
set_option linter.unusedVariables false

theorem map_add_zero (A : Option Addr) : A.map (·.add 0) = A := by
  cases A with
  | none => rfl
  | some a => simp [Addr.add]

end Go.Proofs.Ytjbbnlcghnjlfaa
