/- Merged: WeekN. -/
import Derived.Test.YtjbbnlcghnjlfaaDoorGGpsWeeks13
import Derived.Test.YtjbbnlcghnjlfaaDoorGGpsWeeks17
import Derived.Test.YtjbbnlcghnjlfaaDoorGGpsWeeks23
namespace Go.Proofs.YtjbbnlcghnjlfaaDoor
open Go.RowKit
set_option linter.unusedVariables false

/-- A text behind its sign. -/
def sig (l : List UInt8) : Nat := if l.head? = some 45 then 1 else 0
def bd (l : List UInt8) : List UInt8 := l.drop (sig l)
def yl (l : List UInt8) : Nat := lead (bd l)
/-- Has a text the form of a day? -/
def Good (l : List UInt8) : Prop :=
  4 ≤ yl l ∧ yl l ≤ 5 ∧ (bd l).length = yl l + 6 ∧ (bd l)[yl l]? = some 45 ∧ (bd l)[yl l + 1]? = some 87 ∧ 2 ≤ lead ((bd l).drop (yl l + 2)) ∧
    (bd l)[yl l + 4]? = some 45 ∧ 1 ≤ lead ((bd l).drop (yl l + 5)) ∧ ¬ (yl l = 5 ∧ dv ((bd l).take (yl l)) ≤ 9999) ∧ ¬ (sig l = 1 ∧ dv ((bd l).take (yl l)) = 0)
instance (l : List UInt8) : Decidable (Good l) := by unfold Good; infer_instance
/-! ### acts of a scanner -/
/-- The year. -/
def yF (l : List UInt8) : Nat := fgK (sig l) (rs l (sig l) 0) 0 4 5
def yN (l : List UInt8) : Int := fgN (rs l (sig l) 0) 0 4 5
def yC (l : List UInt8) : Prop := (yF l = sig l + 5 ∧ yN l ≤ 9999) ∨ (sig l = 1 ∧ yN l = 0)
instance (l : List UInt8) : Decidable (yC l) := by unfold yC; infer_instance
/-! ### what is put -/
end Go.Proofs.YtjbbnlcghnjlfaaDoor
