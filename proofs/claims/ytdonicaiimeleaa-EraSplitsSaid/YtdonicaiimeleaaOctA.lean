/- Parts of slices of bytes; room, extended, Size. -/
import Derived.Test.YtdonicaiimeleaaOctM
import Derived.Test.YtdonicaiimeleaaOwn
import Derived.Test.YtdonicaiimeleaaPart
import Derived.Test.YtdonicaiimeleaaShelf
import Derived.Deep.OwnRows
namespace Go.Proofs.Ytdonicaiimeleaa
open Go.RowKit Go.WideShapes Go.ChangeShapes
set_option linter.unusedVariables false

/-- Why bytes have no room for so many parts of a size (0: they have). -/
def rm (len : Nat) (at_ many : Int) (size : Nat) : Int := if at_ < 0 ∨ len < at_ ∨ many < 0 then 1 else if (len - at_) / size < many then 4 else 0
theorem rm_lo (len : Nat) (at_ many : Int) (size : Nat) : 0 ≤ rm len at_ many size ∧ rm len at_ many size < 100 := by unfold rm; split <;> (try split) <;> decide
theorem info8 : (Try.prog.info? 5).map (fun i => (i.zero, i.size, i.bytes)) = some (some (.int .u8 0), 1, 1) := by kernel_rfl
theorem size8 : (Try.prog.info? 5).map (·.size) = some 1 := by kernel_rfl
theorem made_bc (n : Nat) : madeCells #[Value.int .u8 0] n = (bc (List.replicate n 0)).toArray := by
  have := toList_madeCells_one (Value.int .u8 0) n
  rw [bc_rep, ← this]
set_option maxRecDepth 100000 in
theorem size8_any (w : World) : Calls Try.prog 37 #[] w fun e w' => e = .returned (.int .i64 1) ∧ w = w' := by
  have hb := fun w => Try.bits_Len64 255 w (by decide) (by decide)
  rw [show (Lib.bitLen (255 : Int).toNat) = 8 by decide +kernel] at hb
  go_enter Try.func37, Try.ntmps37
  go_wp2_with (go_at_call 45; refine (hb _).mono ?_; rintro e w' ⟨rfl, rfl⟩)
  go_ret
  exact ⟨rfl, rfl⟩
set_option maxRecDepth 100000 in
theorem size16_any (w : World) : Calls Try.prog 38 #[] w fun e w' => e = .returned (.int .i64 2) ∧ w = w' := by
  have hb := fun w => Try.bits_Len64 65535 w (by decide) (by decide)
  rw [show (Lib.bitLen (65535 : Int).toNat) = 16 by decide +kernel] at hb
  go_enter Try.func38, Try.ntmps38
  go_wp2_with (go_at_call 45; refine (hb _).mono ?_; rintro e w' ⟨rfl, rfl⟩)
  go_ret
  exact ⟨rfl, rfl⟩
set_option maxRecDepth 100000 in
theorem size32_any (w : World) : Calls Try.prog 39 #[] w fun e w' => e = .returned (.int .i64 4) ∧ w = w' := by
  have hb := fun w => Try.bits_Len64 4294967295 w (by decide) (by decide)
  rw [show (Lib.bitLen (4294967295 : Int).toNat) = 32 by decide +kernel] at hb
  go_enter Try.func39, Try.ntmps39
  go_wp2_with (go_at_call 45; refine (hb _).mono ?_; rintro e w' ⟨rfl, rfl⟩)
  go_ret
  exact ⟨rfl, rfl⟩
end Go.Proofs.Ytdonicaiimeleaa
