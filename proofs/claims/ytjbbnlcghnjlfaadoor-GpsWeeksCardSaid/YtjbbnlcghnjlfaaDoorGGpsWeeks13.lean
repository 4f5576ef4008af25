/- Merged: WeekM. -/
import Derived.Test.YtjbbnlcghnjlfaaDoorGGpsWeeks11
import Derived.Test.YtjbbnlcghnjlfaaDoorGGpsWeeks12
namespace Go.Proofs.YtjbbnlcghnjlfaaDoor
open Go.RowKit
set_option linter.unusedVariables false

/-- The number of the Monday of a year's first week. -/
def mo (y : Int) : Int := st y + 3 - (wd (st y + 3) - 1)
/-- How many weeks a year has. -/
def wk (y : Int) : Int := (mo (y + 1) - mo y) / 7
/-- The day n lies in the weeks of the year Y. -/
def Wk (n Y : Int) : Prop := mo Y ≤ n ∧ n < mo (Y + 1)
/-- Has a year weeks? -/
def isw (y : Int) : Prop := -10000 ≤ y ∧ y ≤ 10000
instance (y : Int) : Decidable (isw y) := by unfold isw; infer_instance
/-- A week's day: the error's number, the day's number. -/
def wdB (y w d : Int) : Prop := w < 1 ∨ wk y < w ∨ d < 1 ∨ 7 < d
instance (y w d : Int) : Decidable (wdB y w d) := by unfold wdB; infer_instance
def wdF (n : Int) : Prop := n < -4371587 ∨ 2932896 < n
instance (n : Int) : Decidable (wdF n) := by unfold wdF; infer_instance
theorem mo_is (y : Int) : mo y = st y + 3 - (st y + 6) % 7 := by unfold mo wd; omega
theorem mo_bd (y : Int) : st y - 3 ≤ mo y ∧ mo y ≤ st y + 3 := by rw [mo_is]; omega
theorem mo_lt {a b : Int} (h : a < b) : mo a + 350 ≤ mo b := by
  have p := mo_bd a; have q := mo_bd b; have s := st_lt h; have d := yd_bd a
  omega
theorem Wk.one {n Y Z : Int} (h : Wk n Y) (k : Wk n Z) : Y = Z := by
  obtain ⟨a, b⟩ := h; obtain ⟨c, d⟩ := k
  rcases (by omega : Y < Z ∨ Z < Y ∨ Y = Z) with g | g | g
  · rcases (by omega : Y + 1 < Z ∨ Y + 1 = Z) with g' | rfl
    · have := mo_lt g'; omega
    · omega
  · rcases (by omega : Z + 1 < Y ∨ Z + 1 = Y) with g' | rfl
    · have := mo_lt g'; omega
    · omega
  · exact g
end Go.Proofs.YtjbbnlcghnjlfaaDoor
