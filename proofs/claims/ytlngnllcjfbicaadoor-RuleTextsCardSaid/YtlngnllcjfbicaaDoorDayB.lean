/- Package day: Days, Month, YearDay, FromYearDay, Start, Of, First, Last, Weekday. -/
import Derived.Test.YtlngnllcjfbicaaDoorDayA
namespace Go.Proofs.YtlngnllcjfbicaaDoor
open Go.RowKit
set_option linter.unusedVariables false

theorem days_any (y : Int) (w : World) (he : Ends w) : Calls Tryd.prog 84 #[.int .i64 y] w fun e w' => e = .returned (.tuple #[.int .i64 (ydR y), ev (cky y)]) ∧ w = w' := by
  have hy := isyear_any y w
  by_cases c : isy y
  · have e1 : ydR y = yd y := if_pos c
    have e2 : cky y = 0 := if_pos c
    rw [e1, e2]; clear e1 e2
    rw [decide_eq_true c] at hy
    clear c
    have hE := end_any y 12 w (by omega) (by omega) he
    rw [em_yd] at hE
    clear he
    go_enter Tryd.func84, Tryd.ntmps84
    go_wp2_with (first
      | (go_at_call 55; refine hy.mono ?_; rintro e w' ⟨rfl, rfl⟩)
      | (go_at_call 54; refine hE.mono ?_; rintro e w' ⟨rfl, rfl⟩))
    go_ret2
    exact ⟨rfl, rfl⟩
  · have e1 : ydR y = 0 := if_neg c
    have e2 : cky y = 13 := if_neg c
    rw [e1, e2, ev_pos (by decide)]; clear e1 e2 he
    rw [decide_eq_false c] at hy
    clear c
    go_enter Tryd.func84, Tryd.ntmps84
    go_wp2_with (go_at_call 55; refine hy.mono ?_; rintro e w' ⟨rfl, rfl⟩)
    go_ret2
    exact ⟨rfl, rfl⟩

theorem month_any (y m : Int) (w : World) (he : Ends w) : Calls Tryd.prog 26 #[.int .i64 y, .int .i64 m] w fun e w' => e = .returned (.tuple #[.int .i64 (mlR y m), ev (ckm y m)]) ∧ w = w' := by
  have hy := isyear_any y w
  by_cases c : isy y
  · rw [decide_eq_true c] at hy
    by_cases b : m < 1 ∨ 12 < m
    · have e2 : ckm y m = 1 := by unfold ckm; rw [if_pos c, if_pos b]
      have e1 : mlR y m = 0 := by unfold mlR; rw [e2]; rfl
      rw [e1, e2, ev_pos (by decide)]; clear e1 e2 he c
      rcases (by omega : m < 1 ∨ (¬ m < 1 ∧ 12 < m)) with b | ⟨b, b'⟩
      all_goals
        go_enter Tryd.func26, Tryd.ntmps26
        go_wp2_with (go_at_call 55; refine hy.mono ?_; rintro e w' ⟨rfl, rfl⟩)
        go_ret2
        exact ⟨rfl, rfl⟩
    · have e2 : ckm y m = 0 := by unfold ckm; rw [if_pos c, if_neg b]
      have e1 : mlR y m = em y m - em y (m - 1) := by unfold mlR; rw [e2]; rfl
      rw [e1, e2]; clear e1 e2 c
      have h1 := end_any y m w (by omega) (by omega) he
      have h2 := end_any y (m - 1) w (by omega) (by omega) he
      have b1 := em_bd y (m := m) (by omega) (by omega)
      have b2 := em_bd y (m := m - 1) (by omega) (by omega)
      have m1 : ¬ m < 1 := by omega
      have m2 : ¬ m > 12 := by omega
      clear he
      generalize em y m = p at *
      generalize em y (m - 1) = q at *
      go_enter Tryd.func26, Tryd.ntmps26
      go_wp2_with (first
        | (go_at_call 55; refine hy.mono ?_; rintro e w' ⟨rfl, rfl⟩)
        | (go_at_call 54; ((with_reducible refine h1.mono ?_); rintro e w' ⟨rfl, rfl⟩))
        | (go_at_call 54; ((with_reducible refine h2.mono ?_); rintro e w' ⟨rfl, rfl⟩)))
      go_ret2
      exact ⟨rfl, rfl⟩
  · have e2 : ckm y m = 13 := if_neg c
    have e1 : mlR y m = 0 := by unfold mlR; rw [e2]; rfl
    rw [e1, e2, ev_pos (by decide)]; clear e1 e2 he
    rw [decide_eq_false c] at hy
    clear c
    go_enter Tryd.func26, Tryd.ntmps26
    go_wp2_with (go_at_call 55; refine hy.mono ?_; rintro e w' ⟨rfl, rfl⟩)
    go_ret2
    exact ⟨rfl, rfl⟩

/-- An error that isn't nil. -/
theorem ne_z {k : Int} (h : k ≠ 0) : (k != 0) = true := bne_iff_ne.mpr h

theorem yearday_any (y m d : Int) (w : World) (he : Ends w) : Calls Tryd.prog 77 #[.int .i64 y, .int .i64 m, .int .i64 d] w fun e w' => e = .returned (.tuple #[.int .i64 (nkR y m d), ev (ckd y m d)]) ∧ w = w' := by
  have hM := month_any y m w he
  have q0 := fun op t x k => guard_ev op t w x k
  have q2 := fun k => neq_ev w k
  by_cases c : ckm y m = 0
  · have hm : isy y ∧ 1 ≤ m ∧ m ≤ 12 := by
      unfold ckm at c
      split at c
      · next hy => split at c
                   · cases c
                   · exact ⟨hy, by omega, by omega⟩
      · cases c
    obtain ⟨hy, m1, m2⟩ := hm
    have e1 : mlR y m = ml y m := if_pos c
    rw [c, e1] at hM; clear e1 c
    have b := ml_bd y m1 m2
    by_cases g : d < 1 ∨ ml y m < d
    · have e2 : ckd y m d = 1 := by unfold ckd; rw [if_pos hy, if_neg (by omega), if_pos g]
      have e1 : nkR y m d = 0 := by unfold nkR; rw [e2]; rfl
      rw [e1, e2, ev_pos (by decide)]; clear e1 e2 he hy m1 m2
      generalize ml y m = l at *
      rcases (by omega : d < 1 ∨ (¬ d < 1 ∧ l < d)) with g | ⟨g, g'⟩
      all_goals
        go_enter Tryd.func77, Tryd.ntmps77
        go_wp2_with (go_at_call 26; refine hM.mono ?_; rintro e w' ⟨rfl, rfl⟩)
        go_ret2
        exact ⟨rfl, rfl⟩
    · have e2 : ckd y m d = 0 := by unfold ckd; rw [if_pos hy, if_neg (by omega), if_neg g]
      have e1 : nkR y m d = em y (m - 1) + d := by unfold nkR; rw [e2]; rfl
      rw [e1, e2]; clear e1 e2 hy
      have h2 := end_any y (m - 1) w (by omega) (by omega) he
      have b2 := em_bd y (m := m - 1) (by omega) (by omega)
      clear he
      have g1 : ¬ d < 1 := by omega
      have g2 : ¬ d > ml y m := by omega
      clear g
      generalize ml y m = l at *
      generalize em y (m - 1) = q at *
      go_enter Tryd.func77, Tryd.ntmps77
      go_wp2_with (first
        | (go_at_call 26; refine hM.mono ?_; rintro e w' ⟨rfl, rfl⟩)
        | (go_at_call 54; refine h2.mono ?_; rintro e w' ⟨rfl, rfl⟩))
      go_ret2
      exact ⟨rfl, rfl⟩
  · have e2 : ckd y m d = ckm y m := by
      unfold ckm at c ⊢; unfold ckd
      split
      · next hy =>
        rw [if_pos hy] at c
        split
        · rfl
        · next g => rw [if_neg g] at c; exact absurd rfl c
      · rfl
    have e1 : nkR y m d = 0 := by unfold nkR; rw [if_neg (by rw [e2]; exact c)]
    rw [e1, e2]; clear e1 e2 he
    have c' := ne_z c
    clear c
    generalize ckm y m = k at *
    generalize mlR y m = r at *
    go_enter Tryd.func77, Tryd.ntmps77
    go_wp2_with (go_at_call 26; refine hM.mono ?_; rintro e w' ⟨rfl, rfl⟩)
    go_ret2
    exact ⟨rfl, rfl⟩

theorem fromyd_any (y k : Int) (w : World) (he : Ends w) : Calls Tryd.prog 78 #[.int .i64 y, .int .i64 k] w fun e w' => e = .returned (.tuple #[.int .i64 (fyR y k), ev (ckk y k)]) ∧ w = w' := by
  have hM := days_any y w he
  have q0 := fun op t x k => guard_ev op t w x k
  have q2 := fun k => neq_ev w k
  by_cases c : isy y
  · have e1 : cky y = 0 := if_pos c
    have e2 : ydR y = yd y := if_pos c
    rw [e1, e2] at hM; clear e1 e2
    have b := yd_bd y
    by_cases g : k < 1 ∨ yd y < k
    · have e2 : ckk y k = 1 := by unfold ckk; rw [if_pos c, if_pos g]
      have e1 : fyR y k = 0 := by unfold fyR; rw [e2]; rfl
      rw [e1, e2, ev_pos (by decide)]; clear e1 e2 he c
      generalize yd y = l at *
      rcases (by omega : k < 1 ∨ (¬ k < 1 ∧ l < k)) with g | ⟨g, g'⟩
      all_goals
        go_enter Tryd.func78, Tryd.ntmps78
        go_wp2_with (go_at_call 84; refine hM.mono ?_; rintro e w' ⟨rfl, rfl⟩)
        go_ret2
        exact ⟨rfl, rfl⟩
    · have e2 : ckk y k = 0 := by unfold ckk; rw [if_pos c, if_neg g]
      have e1 : fyR y k = st y + (k - 1) := by unfold fyR; rw [e2, if_pos rfl]; omega
      rw [e1, e2]; clear e1 e2 he
      have hS := start_any y w (by have := c.1; omega) (by have := c.2; omega)
      have bs := st_in c
      have g1 : ¬ k < 1 := by omega
      have g2 : ¬ k > yd y := by omega
      clear g c
      generalize yd y = l at *
      generalize st y = q at *
      go_enter Tryd.func78, Tryd.ntmps78
      go_wp2_with (first
        | (go_at_call 84; refine hM.mono ?_; rintro e w' ⟨rfl, rfl⟩)
        | (go_at_call 52; refine hS.mono ?_; rintro e w' ⟨rfl, rfl⟩))
      go_ret2
      exact ⟨rfl, rfl⟩
  · have e1 : cky y = 13 := if_neg c
    have e2 : ckk y k = 13 := if_neg c
    have e3 : fyR y k = 0 := by unfold fyR; rw [e2]; rfl
    rw [e1] at hM
    rw [e2, e3]; clear e1 e2 e3 he c
    generalize ydR y = r at *
    go_enter Tryd.func78, Tryd.ntmps78
    go_wp2_with (go_at_call 84; refine hM.mono ?_; rintro e w' ⟨rfl, rfl⟩)
    go_ret2
    exact ⟨rfl, rfl⟩

theorem dstart_any (y : Int) (w : World) : Calls Tryd.prog 29 #[.int .i64 y] w fun e w' => e = .returned (.tuple #[.int .i64 (stR y), ev (cks y)]) ∧ w = w' := by
  by_cases c : y < -20000 ∨ 20000 < y
  · have e2 : cks y = 13 := if_pos c
    have e1 : stR y = 0 := by unfold stR; rw [e2]; rfl
    rw [e1, e2, ev_pos (by decide)]; clear e1 e2
    rcases (by omega : y < -20000 ∨ (¬ y < -20000 ∧ 20000 < y)) with c | ⟨c, c'⟩
    all_goals
      go_enter Tryd.func29, Tryd.ntmps29
      go_wp2
      go_ret2
      exact ⟨rfl, rfl⟩
  · have e2 : cks y = 0 := if_neg c
    have e1 : stR y = st y := by unfold stR; rw [e2]; rfl
    rw [e1, e2]; clear e1 e2
    have hS := start_any y w (by omega) (by omega)
    have c1 : ¬ y < -20000 := by omega
    have c2 : ¬ y > 20000 := by omega
    clear c
    generalize st y = q at *
    go_enter Tryd.func29, Tryd.ntmps29
    go_wp2_with (go_at_call 52; refine hS.mono ?_; rintro e w' ⟨rfl, rfl⟩)
    go_ret2
    exact ⟨rfl, rfl⟩

theorem dof_any (y m d : Int) (w : World) (he : Ends w) : Calls Tryd.prog 70 #[.int .i64 y, .int .i64 m, .int .i64 d] w fun e w' => e = .returned (.tuple #[.int .i64 (ofR y m d), ev (ckd y m d)]) ∧ w = w' := by
  have hK := yearday_any y m d w he
  have q0 := fun op t x k => guard_ev op t w x k
  have q2 := fun k => neq_ev w k
  by_cases c : ckd y m d = 0
  · have D := ckd_dt c
    have hy := D.1
    have hF := fromyd_any y (nkR y m d) w he
    have e1 : nkR y m d = em y (m - 1) + d := if_pos c
    have e2 : ckk y (nkR y m d) = 0 := by
      have b := em_bd y (m := m - 1) (by have := D.2.1; omega) (by have := D.2.2.1; omega)
      have l := em_le y (m := m) (by have := D.2.1; omega) D.2.2.1
      have s := em_succ y m
      have d1 := D.2.2.2.1; have d2 := D.2.2.2.2.1
      unfold ckk
      rw [if_pos hy, if_neg (by rw [e1]; omega)]
    have e3 : fyR y (nkR y m d) = ofR y m d := by unfold fyR ofR; rw [if_pos e2, if_pos c, e1]; omega
    rw [e2, e3] at hF
    rw [c] at hK ⊢
    clear e1 e2 e3 c he hy D
    generalize nkR y m d = k at *
    generalize ofR y m d = r at *
    go_enter Tryd.func70, Tryd.ntmps70
    go_wp2_with (first
      | (go_at_call 77; refine hK.mono ?_; rintro e w' ⟨rfl, rfl⟩)
      | (go_at_call 78; refine hF.mono ?_; rintro e w' ⟨rfl, rfl⟩))
    go_ret2
    exact ⟨rfl, rfl⟩
  · have e1 : ofR y m d = 0 := if_neg c
    rw [e1]
    have c' := ne_z c
    clear c e1 he
    generalize nkR y m d = k at *
    generalize ckd y m d = r at *
    go_enter Tryd.func70, Tryd.ntmps70
    go_wp2_with (go_at_call 77; refine hK.mono ?_; rintro e w' ⟨rfl, rfl⟩)
    go_ret2
    exact ⟨rfl, rfl⟩

theorem first_any (w : World) : Calls Tryd.prog 49 #[] w fun e w' => e = .returned (.int .i64 (-4371587)) ∧ w = w' := by
  have hS := start_any (-9999) w (by omega) (by omega)
  rw [st_first] at hS
  go_enter Tryd.func49, Tryd.ntmps49
  go_wp2_with (go_at_call 52; refine hS.mono ?_; rintro e w' ⟨rfl, rfl⟩)
  go_ret
  exact ⟨rfl, rfl⟩
theorem last_any (w : World) : Calls Tryd.prog 50 #[] w fun e w' => e = .returned (.int .i64 2932896) ∧ w = w' := by
  have hS := start_any 10000 w (by omega) (by omega)
  rw [st_end] at hS
  go_enter Tryd.func50, Tryd.ntmps50
  go_wp2_with (go_at_call 52; refine hS.mono ?_; rintro e w' ⟨rfl, rfl⟩)
  go_ret
  exact ⟨rfl, rfl⟩

/-! weekdays -/
theorem weekday_any (n : Int) (w : World) : Calls Tryd.prog 27 #[.int .i64 n] w fun e w' => e = .returned (.int .i64 (wd n)) ∧ w = w' := by
  have hb := tm_bd n
  have E : Hid (wd n = (n.tmod 7 + 7 + 3) % 7 + 1) := Lib.hid (by rw [tm_same]; rfl)
  generalize hr : n.tmod 7 = r at *
  have R := Lib.hid hr
  generalize wd n = v at *
  go_enter Tryd.func27, Tryd.ntmps27
  go_wp2
  go_ret
  exact ⟨ret1_eq (int_eq (by rw [E.out]; omega)), rfl⟩

end Go.Proofs.YtlngnllcjfbicaaDoor
