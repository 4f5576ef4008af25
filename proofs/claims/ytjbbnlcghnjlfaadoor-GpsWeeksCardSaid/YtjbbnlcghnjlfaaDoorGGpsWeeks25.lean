/- Merged: GpsN. -/
import Derived.Test.YtjbbnlcghnjlfaaDoorGGpsWeeks3
import Derived.Test.YtjbbnlcghnjlfaaDoorGGpsWeeks24
import Derived.Test.YtjbbnlcghnjlfaaDoorGGpsWeeks23
import Derived.Test.YtjbbnlcghnjlfaaDoorGGpsWeeks15
import Derived.Deep.LoopGhost
import Derived.Deep.DeepCutAuto
import Derived.Deep.CutRange
import Derived.Deep.CutBlock
namespace Go.Proofs.YtjbbnlcghnjlfaaDoor
open Go.RowKit
set_option linter.unusedVariables false

/-- Is a text's week wrong? -/
def wb (l : List UInt8) : Prop := yl l < 4 ∨ (4 < yl l ∧ (bd l).head? = some 48) ∨ (sig l = 1 ∧ (bd l).take (yl l) = [48, 48, 48, 48])
instance (l : List UInt8) : Decidable (wb l) := by unfold wb; infer_instance
/-- Has a text the form of a moment? -/
def gGood (l : List UInt8) : Prop := ¬ wb l ∧ (bd l).length = yl l + 7 ∧ (bd l)[yl l]? = some 58 ∧ 6 ≤ lead ((bd l).drop (yl l + 1))
instance (l : List UInt8) : Decidable (gGood l) := by unfold gGood; infer_instance
/-! figures alone -/
/-! what the scanner makes of it -/
/-! a week's text as a number -/
/-! what is put -/
/-- The text of a week's second. -/
def gpL (w s : Int) : List UInt8 := ptL w 4 ++ [58] ++ ptL s 6
end Go.Proofs.YtjbbnlcghnjlfaaDoor
