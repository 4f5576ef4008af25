/- Merged: FigC. -/
import Derived.Test.YtjbbnlcghnjlfaaGGpsTexts33
import Derived.Lib.AppendIntMem
namespace Go.Proofs.Ytjbbnlcghnjlfaa
open Go.RowKit
set_option linter.unusedVariables false

/-! ### PutFraction, Short -/
/-- Isn't it a fraction? -/
def nf (nano : Int) : Prop := nano < 0 ∨ 999999999 < nano
instance (n : Int) : Decidable (nf n) := by unfold nf; infer_instance
end Go.Proofs.Ytjbbnlcghnjlfaa
