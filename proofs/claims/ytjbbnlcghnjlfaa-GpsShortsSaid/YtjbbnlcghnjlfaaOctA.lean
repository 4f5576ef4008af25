/- Parts of slices of bytes; room, extended, Size. -/
import Derived.Test.YtjbbnlcghnjlfaaOctM
import Derived.Test.YtjbbnlcghnjlfaaOwn
import Derived.Test.YtjbbnlcghnjlfaaPart
import Derived.Test.YtjbbnlcghnjlfaaShelf
import Derived.Deep.OwnRows
namespace Go.Proofs.Ytjbbnlcghnjlfaa
open Go.RowKit Go.WideShapes Go.ChangeShapes
set_option linter.unusedVariables false

/-- Why bytes have no room for so many parts of a size (0: they have). -/
def rm (len : Nat) (at_ many : Int) (size : Nat) : Int := if at_ < 0 ∨ len < at_ ∨ many < 0 then 1 else if (len - at_) / size < many then 4 else 0
theorem rm_lo (len : Nat) (at_ many : Int) (size : Nat) : 0 ≤ rm len at_ many size ∧ rm len at_ many size < 100 := by unfold rm; split <;> (try split) <;> decide
theorem info8 : (Try.prog.info? 5).map (fun i => (i.zero, i.size, i.bytes)) = some (some (.int .u8 0), 1, 1) := by kernel_rfl
theorem size8 : (Try.prog.info? 5).map (·.size) = some 1 := by kernel_rfl
theorem made_bc (n : Nat) : madeCells #[Value.int .u8 0] n = (bc (List.replicate n 0)).toArray := by
  have := toList_madeCells_one (Value.int .u8 0) n
  rw [bc_rep, ← this]
end Go.Proofs.Ytjbbnlcghnjlfaa
