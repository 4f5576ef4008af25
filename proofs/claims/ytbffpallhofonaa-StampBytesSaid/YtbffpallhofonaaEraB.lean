/- Package era: Near, Split, Join; Fold and Unfold of words of each size. -/
import Derived.Test.YtbffpallhofonaaEraA
import Derived.Test.YtbffpallhofonaaOctA
namespace Go.Proofs.Ytbffpallhofonaa
open Go.RowKit
set_option linter.unusedVariables false
set_option linter.unusedSimpArgs false

theorem fold32_any (t : Int) (w : World) : Calls Try.prog 39 #[.int .i64 t] w fun e w' => e = .returned (.int .u32 (t % 4294967296)) ∧ w = w' := by
  have e1 : IntKind.u32.wrap t = t % 4294967296 := IntKind.wrap_u32 t
  go_enter Try.func39, Try.ntmps39
  go_wp2
  go_ret
  exact ⟨rfl, rfl⟩

theorem unfold32_any (x p : Int) (w : World) (h0 : 0 ≤ x) (hx : x < 4294967296) (hp : fits p) :
    Calls Try.prog 40 #[.int .u32 x, .int .i64 p] w fun e w' => e = .returned (.tuple #[.int .i64 (bsV x 32 p), ev (bsE x 32 p)]) ∧ w = w' := by
  have HB := Lib.hid (fun w => bits_any x 32 p w h0 (by omega) hp)
  go_enter Try.func40, Try.ntmps40
  go_wp2_with first | (go_at_call 58; refine (size32_any _).mono ?_; rintro e w' ⟨rfl, rfl⟩) | (go_at_call 55; refine (HB.out _).mono ?_; rintro e w' ⟨rfl, rfl⟩)
  go_ret2
  exact ⟨rfl, rfl⟩

end Go.Proofs.Ytbffpallhofonaa
