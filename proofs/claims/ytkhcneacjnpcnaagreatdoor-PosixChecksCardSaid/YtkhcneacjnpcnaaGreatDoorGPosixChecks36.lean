/- Merged: RulE. -/
import Derived.Test.YtkhcneacjnpcnaaGreatDoorGPosixChecks32
import Derived.Test.YtkhcneacjnpcnaaGreatDoorGPosixChecks2
import Derived.Test.YtkhcneacjnpcnaaGreatDoorGPosixChecks3
import Derived.Lib.LaidTab
import Derived.Lib.SmallJoins
namespace Go.Proofs.YtkhcneacjnpcnaaGreatDoor
open Go.RowKit
set_option linter.unusedVariables false
set_option linter.unusedSimpArgs false

theorem below_dn16 {B : Nat} {a w : World} (h : Below B a w) (n : Nat) : Below B a (w.drewN n) := ⟨h.os, h.tape, h.output, h.size, h.block⟩
/-! ### how many days of a year are over -/
/-! ### Day, At -/
end Go.Proofs.YtkhcneacjnpcnaaGreatDoor
