/- Merged: FigB. -/
import Derived.Test.YtjbbnlcghnjlfaaDoorGGpsWeeks14
import Derived.Test.YtjbbnlcghnjlfaaDoorGGpsWeeks15
import Derived.Lib.SmallJoins
namespace Go.Proofs.YtjbbnlcghnjlfaaDoor
open Go.RowKit
set_option linter.unusedVariables false

/-- The greatest number, and one more. -/
def mx : Nat := 9223372036854775807
/-! ### the library's calls -/
theorem cutp_any (s : ByteArray) (c : UInt8) (w : World) :
    Calls Tryd.prog 58 #[.string s, .string ⟨#[c]⟩] w fun e w' => e = .returned (.tuple #[.string ⟨(Lib.trimPrefix s.data.toList [c]).toArray⟩, .bool (Lib.hasPrefix s.data.toList [c])]) ∧ w = w' :=
  (Tryd.strings_CutPrefix s ⟨#[c]⟩ w).mono fun e w' ⟨he, hw⟩ => ⟨he, hw.symm⟩
/-! ### Signed -/
/-! ### Fraction -/
end Go.Proofs.YtjbbnlcghnjlfaaDoor
