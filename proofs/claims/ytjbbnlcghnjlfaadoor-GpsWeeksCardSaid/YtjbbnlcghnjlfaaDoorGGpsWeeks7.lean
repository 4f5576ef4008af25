/- Merged: NumB. -/
import Derived.Test.YtjbbnlcghnjlfaaDoorGGpsWeeks4
import Derived.Test.YtjbbnlcghnjlfaaDoorGGpsWeeks5
import Derived.BigQuiet
import Derived.Deep.QuietTactic
namespace Go.Proofs.YtjbbnlcghnjlfaaDoor
open Go.RowKit

theorem fdiv_fits {a b : Int} (ha : fits a) (hb : 1 ≤ b) : fits (a.fdiv b) := by
  have h := fdm a b
  have hm := fmod_pos (a := a) (b := b) (by omega)
  unfold fits at *
  constructor
  · rcases Int.lt_or_le (a.fdiv b) (-9223372036854775808) with hlt | hge
    · exfalso
      have h1 : b * a.fdiv b ≤ b * (-9223372036854775809) := Int.mul_le_mul_of_nonneg_left (by omega) (by omega)
      omega
    · exact hge
  · rcases Int.lt_or_le 9223372036854775807 (a.fdiv b) with hlt | hge
    · exfalso
      have h1 : b * 9223372036854775808 ≤ b * a.fdiv b := Int.mul_le_mul_of_nonneg_left (by omega) (by omega)
      omega
    · exact hge

theorem div_pos (a b : Int) (w : World) (ha : fits a) (hb : fits b) (hb1 : 1 ≤ b) :
    Calls Tryd.prog 39 #[.int .i64 a, .int .i64 b] w fun e w' => e = .returned (.tuple #[.int .i64 (a.fdiv b), .nilIface]) ∧ w = w' := by
  have h := div_any a b w ha hb (by omega)
  rw [sm_fit (fdiv_fits ha hb1), bad_fit (fdiv_fits ha hb1)] at h
  exact h

theorem split_any (a b : Int) (w : World) (ha : fits a) (hb : fits b) (hb1 : 1 ≤ b) :
    Calls Tryd.prog 18 #[.int .i64 a, .int .i64 b] w fun e w' => e = .returned (.tuple #[.int .i64 (a.fdiv b), .int .i64 (a.fmod b), .nilIface]) ∧ w = w' := by
  have hb' : ¬ (b < 1) := by omega
  go_enter Tryd.func18, Tryd.ntmps18
  go_wp2_with (first
    | (go_at_call 39; refine (div_pos _ _ _ ha hb hb1).mono ?_; rintro e w' ⟨rfl, rfl⟩)
    | (go_at_call 40; refine (mod_any _ _ _ ha hb (by omega)).mono ?_; rintro e w' ⟨rfl, rfl⟩))
  go_ret3
  exact ⟨ret3_eq rfl rfl rfl, rfl⟩

end Go.Proofs.YtjbbnlcghnjlfaaDoor
