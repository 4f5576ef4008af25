/- Package day: Days, Month, YearDay, FromYearDay, Start, Of, First, Last, Weekday. -/
import Derived.Test.YtjbbnlcghnjlfaaDayA
namespace Go.Proofs.Ytjbbnlcghnjlfaa
open Go.RowKit
set_option linter.unusedVariables false

/-- An error that isn't nil. -/
theorem ne_z {k : Int} (h : k ≠ 0) : (k != 0) = true := bne_iff_ne.mpr h

/-! weekdays -/
theorem wd_bd (n : Int) : 1 ≤ wd n ∧ wd n ≤ 7 := by unfold wd; omega
theorem tm_bd (n : Int) : -6 ≤ n.tmod 7 ∧ n.tmod 7 ≤ 6 := by
  have h1 := Int.tmod_lt_of_pos n (by omega : (0 : Int) < 7)
  have h2 := Int.lt_tmod_of_pos n (by omega : (0 : Int) < 7)
  omega
theorem tm_same (n : Int) : (n.tmod 7 + 7 + 3) % 7 = (n + 3) % 7 := by
  have h := Int.tmod_add_mul_tdiv n 7
  generalize n.tmod 7 = r at *
  generalize n.tdiv 7 = q at *
  omega
end Go.Proofs.Ytjbbnlcghnjlfaa
