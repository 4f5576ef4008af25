/- Split, errors' numbers, and the fixed fact at each statement's head. -/
import Derived.Test.YtbffpallhofonaaNumA
import Derived.Test.YtbffpallhofonaaErr
import Derived.BigQuiet
import Derived.Deep.QuietTactic
namespace Go.Proofs.Ytbffpallhofonaa
open Go.RowKit

theorem fdiv_fits {a b : Int} (ha : fits a) (hb : 1 ≤ b) : fits (a.fdiv b) := by
  have h := fdm a b
  have hm := fmod_pos (a := a) (b := b) (by omega)
  unfold fits at *
  constructor
  · rcases Int.lt_or_le (a.fdiv b) (-9223372036854775808) with hlt | hge
    · exfalso
      have h1 : b * a.fdiv b ≤ b * (-9223372036854775809) := Int.mul_le_mul_of_nonneg_left (by omega) (by omega)
      omega
    · exact hge
  · rcases Int.lt_or_le 9223372036854775807 (a.fdiv b) with hlt | hge
    · exfalso
      have h1 : b * 9223372036854775808 ≤ b * a.fdiv b := Int.mul_le_mul_of_nonneg_left (by omega) (by omega)
      omega
    · exact hge

end Go.Proofs.Ytbffpallhofonaa
