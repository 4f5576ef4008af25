/- Package day: Days, Month, YearDay, FromYearDay, Start, Of, First, Last, Weekday. -/
import Derived.Test.YtplibjgfdnbifaaDoorDayA
namespace Go.Proofs.YtplibjgfdnbifaaDoor
open Go.RowKit
set_option linter.unusedVariables false

/-- An error that isn't nil. -/
theorem ne_z {k : Int} (h : k ≠ 0) : (k != 0) = true := bne_iff_ne.mpr h

theorem dstart_any (y : Int) (w : World) : Calls Tryd.prog 46 #[.int .i64 y] w fun e w' => e = .returned (.tuple #[.int .i64 (stR y), ev (cks y)]) ∧ w = w' := by
  by_cases c : y < -20000 ∨ 20000 < y
  · have e2 : cks y = 13 := if_pos c
    have e1 : stR y = 0 := by unfold stR; rw [e2]; rfl
    rw [e1, e2, ev_pos (by decide)]; clear e1 e2
    rcases (by omega : y < -20000 ∨ (¬ y < -20000 ∧ 20000 < y)) with c | ⟨c, c'⟩
    all_goals
      go_enter Tryd.func46, Tryd.ntmps46
      go_wp2
      go_ret2
      exact ⟨rfl, rfl⟩
  · have e2 : cks y = 0 := if_neg c
    have e1 : stR y = st y := by unfold stR; rw [e2]; rfl
    rw [e1, e2]; clear e1 e2
    have hS := start_any y w (by omega) (by omega)
    have c1 : ¬ y < -20000 := by omega
    have c2 : ¬ y > 20000 := by omega
    clear c
    generalize st y = q at *
    go_enter Tryd.func46, Tryd.ntmps46
    go_wp2_with (go_at_call 43; refine hS.mono ?_; rintro e w' ⟨rfl, rfl⟩)
    go_ret2
    exact ⟨rfl, rfl⟩

theorem first_any (w : World) : Calls Tryd.prog 32 #[] w fun e w' => e = .returned (.int .i64 (-4371587)) ∧ w = w' := by
  have hS := start_any (-9999) w (by omega) (by omega)
  rw [st_first] at hS
  go_enter Tryd.func32, Tryd.ntmps32
  go_wp2_with (go_at_call 43; refine hS.mono ?_; rintro e w' ⟨rfl, rfl⟩)
  go_ret
  exact ⟨rfl, rfl⟩
theorem last_any (w : World) : Calls Tryd.prog 33 #[] w fun e w' => e = .returned (.int .i64 2932896) ∧ w = w' := by
  have hS := start_any 10000 w (by omega) (by omega)
  rw [st_end] at hS
  go_enter Tryd.func33, Tryd.ntmps33
  go_wp2_with (go_at_call 43; refine hS.mono ?_; rintro e w' ⟨rfl, rfl⟩)
  go_ret
  exact ⟨rfl, rfl⟩

/-! weekdays -/
theorem wd_bd (n : Int) : 1 ≤ wd n ∧ wd n ≤ 7 := by unfold wd; omega
theorem tm_bd (n : Int) : -6 ≤ n.tmod 7 ∧ n.tmod 7 ≤ 6 := by
  have h1 := Int.tmod_lt_of_pos n (by omega : (0 : Int) < 7)
  have h2 := Int.lt_tmod_of_pos n (by omega : (0 : Int) < 7)
  omega
theorem tm_same (n : Int) : (n.tmod 7 + 7 + 3) % 7 = (n + 3) % 7 := by
  have h := Int.tmod_add_mul_tdiv n 7
  generalize n.tmod 7 = r at *
  generalize n.tdiv 7 = q at *
  omega
theorem weekday_any (n : Int) (w : World) : Calls Tryd.prog 24 #[.int .i64 n] w fun e w' => e = .returned (.int .i64 (wd n)) ∧ w = w' := by
  have hb := tm_bd n
  have E : Hid (wd n = (n.tmod 7 + 7 + 3) % 7 + 1) := Lib.hid (by rw [tm_same]; rfl)
  generalize hr : n.tmod 7 = r at *
  have R := Lib.hid hr
  generalize wd n = v at *
  go_enter Tryd.func24, Tryd.ntmps24
  go_wp2
  go_ret
  exact ⟨ret1_eq (int_eq (by rw [E.out]; omega)), rfl⟩

end Go.Proofs.YtplibjgfdnbifaaDoor
