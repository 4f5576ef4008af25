/- Package day: Days, Month, YearDay, FromYearDay, Start, Of, First, Last, Weekday. -/
import Derived.Test.YtaahfkkcjfpieaaDoorDayA
namespace Go.Proofs.YtaahfkkcjfpieaaDoor
open Go.RowKit
set_option linter.unusedVariables false

/-- An error that isn't nil. -/
theorem ne_z {k : Int} (h : k ≠ 0) : (k != 0) = true := bne_iff_ne.mpr h

theorem first_any (w : World) : Calls Tryd.prog 53 #[] w fun e w' => e = .returned (.int .i64 (-4371587)) ∧ w = w' := by
  have hS := start_any (-9999) w (by omega) (by omega)
  rw [st_first] at hS
  go_enter Tryd.func53, Tryd.ntmps53
  go_wp2_with (go_at_call 56; refine hS.mono ?_; rintro e w' ⟨rfl, rfl⟩)
  go_ret
  exact ⟨rfl, rfl⟩
theorem last_any (w : World) : Calls Tryd.prog 54 #[] w fun e w' => e = .returned (.int .i64 2932896) ∧ w = w' := by
  have hS := start_any 10000 w (by omega) (by omega)
  rw [st_end] at hS
  go_enter Tryd.func54, Tryd.ntmps54
  go_wp2_with (go_at_call 56; refine hS.mono ?_; rintro e w' ⟨rfl, rfl⟩)
  go_ret
  exact ⟨rfl, rfl⟩

/-! weekdays -/
theorem wd_bd (n : Int) : 1 ≤ wd n ∧ wd n ≤ 7 := by unfold wd; omega
theorem tm_bd (n : Int) : -6 ≤ n.tmod 7 ∧ n.tmod 7 ≤ 6 := by
  have h1 := Int.tmod_lt_of_pos n (by omega : (0 : Int) < 7)
  have h2 := Int.lt_tmod_of_pos n (by omega : (0 : Int) < 7)
  omega
theorem tm_same (n : Int) : (n.tmod 7 + 7 + 3) % 7 = (n + 3) % 7 := by
  have h := Int.tmod_add_mul_tdiv n 7
  generalize n.tmod 7 = r at *
  generalize n.tdiv 7 = q at *
  omega
end Go.Proofs.YtaahfkkcjfpieaaDoor
