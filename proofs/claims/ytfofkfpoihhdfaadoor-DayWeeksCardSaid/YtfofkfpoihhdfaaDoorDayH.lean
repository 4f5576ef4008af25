/- The statements DayDates, DayNumbers, DayYears, DayWeeks. -/
import Derived.Test.YtfofkfpoihhdfaaDoorDayG
namespace Go.Proofs.YtfofkfpoihhdfaaDoor
open Go.RowKit
set_option linter.unusedVariables false

theorem alive_any (w : World) (he : Ends w) : Calls Tryd.prog 8 #[] w fun e w' => e = .returned (.bool true) ∧ w = w' := by
  have hO := of_any 2000 3 1 w he
  rw [show ofR 2000 3 1 = 11017 by decide, show ckd 2000 3 1 = 0 by decide] at hO
  have hW := weekday_any 11017 w
  rw [show wd 11017 = 3 by decide] at hW
  have q0 := fun op t W x k => guard_ev op t W x k
  have q1 := fun W k => eql_ev W k
  clear he
  go_enter Tryd.func8, Tryd.ntmps8
  go_wp2_with (first
    | (go_at_call 9; refine (hO).mono ?_; rintro e w' ⟨rfl, rfl⟩)
    | (go_at_call 28; refine (hW).mono ?_; rintro e w' ⟨rfl, rfl⟩))
  go_ret
  exact ⟨rfl, rfl⟩

set_option maxRecDepth 100000 in
set_option maxHeartbeats 4000000 in
theorem dates_walk (y m d : Int) (w : World) (he : Ends w) :
    Calls Tryd.prog 3 #[.int .i64 y, .int .i64 m, .int .i64 d] w fun e w' => e = .returned (.bool true) ∧ Below w.heap.size w w' := by
  have hA := alive_any w he
  have q0 := fun op t W x k => guard_ev op t W x k
  have q1 := fun W k => eql_ev W k
  have q2 := fun W k => neq_ev W k
  have hO := of_any y m d w he
  have hK := yearday_any y m d w he
  have hC := rcheck_any y m d w
  have hL := fun w => leap_any y w
  have hRL := fun w => rleap_any y w
  have hM := fun w he => month_any y m w he
  have hY := fun w he => days_any y w he
  have hRY := fun w => ryear_any y w
  have hRD := fun w => rdays_any y w
  have lpb : (lp y != lp y) = false := by simp
  by_cases c : isy y
  · rw [show cky y = 0 from if_pos c, show ydR y = yd y from if_pos c] at hY
    rw [decide_eq_true c] at hRY
    have hRS := fun w => rstart_any y w (by have := c.1; omega) (by have := c.2; omega)
    by_cases b : m < 1 ∨ 12 < m
    · have e1 : ckd y m d = 1 := by unfold ckd; rw [if_pos c, if_pos b]
      have e2 : ckm y m = 1 := by unfold ckm; rw [if_pos c, if_pos b]
      rw [e1, show ofR y m d = 0 by unfold ofR; rw [e1]; rfl] at hO
      rw [e1, show nkR y m d = 0 by unfold nkR; rw [e1]; rfl] at hK
      rw [e1] at hC
      rw [e2, show mlR y m = 0 by unfold mlR; rw [e2]; rfl] at hM
      clear e1 e2 c
      generalize yd y = Y at *
      generalize lp y = P at *
      have HC := Lib.hid hC; clear hC
      rcases (by omega : m < 1 ∨ (¬ m < 1 ∧ m > 12)) with b | ⟨b, b'⟩
      all_goals
        go_enter Tryd.func3, Tryd.ntmps3
        go_wp2_with (first
          | (go_at_call 9; refine (hO).mono ?_; rintro e w' ⟨rfl, rfl⟩)
          | (go_at_call 8; refine (hA).mono ?_; rintro e w' ⟨rfl, rfl⟩)
          | (go_at_call 10; refine (hK).mono ?_; rintro e w' ⟨rfl, rfl⟩)
          | (go_at_call 13; refine (hL _).mono ?_; rintro e w' ⟨rfl, rfl⟩)
          | (go_at_call 14; refine (hRL _).mono ?_; rintro e w' ⟨rfl, rfl⟩)
          | (go_at_call 15; refine (hM _ (by assumption)).mono ?_; rintro e w' ⟨rfl, rfl⟩)
          | (go_at_call 16; refine (hY _ (by assumption)).mono ?_; rintro e w' ⟨rfl, rfl⟩)
          | (go_at_call 17; refine (hRY _).mono ?_; rintro e w' ⟨rfl, rfl⟩)
          | (go_at_call 19; refine (hRD _).mono ?_; rintro e w' ⟨rfl, rfl⟩)
          | (go_at_call 22; refine (hRS _).mono ?_; rintro e w' ⟨rfl, rfl⟩)
          | (go_at_call 12; refine (num_any _ _ (by decide) (by decide)).mono ?_; rintro e w' ⟨rfl, rfl⟩)
          | (go_at_call 18; refine (is_any _ _ _ (by decide) (by decide)).mono ?_; rintro e w' ⟨rfl, rfl⟩))
        refine HC.out.mono ?_
        rintro e w1 ⟨rfl, hb⟩
        have E1 := he.below hb
        have B1 := Lib.hid hb
        clear hb
        go_wp2_with (first
          | (go_at_call 9; refine (hO).mono ?_; rintro e w' ⟨rfl, rfl⟩)
          | (go_at_call 8; refine (hA).mono ?_; rintro e w' ⟨rfl, rfl⟩)
          | (go_at_call 10; refine (hK).mono ?_; rintro e w' ⟨rfl, rfl⟩)
          | (go_at_call 13; refine (hL _).mono ?_; rintro e w' ⟨rfl, rfl⟩)
          | (go_at_call 14; refine (hRL _).mono ?_; rintro e w' ⟨rfl, rfl⟩)
          | (go_at_call 15; refine (hM _ (by assumption)).mono ?_; rintro e w' ⟨rfl, rfl⟩)
          | (go_at_call 16; refine (hY _ (by assumption)).mono ?_; rintro e w' ⟨rfl, rfl⟩)
          | (go_at_call 17; refine (hRY _).mono ?_; rintro e w' ⟨rfl, rfl⟩)
          | (go_at_call 19; refine (hRD _).mono ?_; rintro e w' ⟨rfl, rfl⟩)
          | (go_at_call 22; refine (hRS _).mono ?_; rintro e w' ⟨rfl, rfl⟩)
          | (go_at_call 12; refine (num_any _ _ (by decide) (by decide)).mono ?_; rintro e w' ⟨rfl, rfl⟩)
          | (go_at_call 18; refine (is_any _ _ _ (by decide) (by decide)).mono ?_; rintro e w' ⟨rfl, rfl⟩))
        go_ret
        exact ⟨rfl, B1.out⟩
    · have e2 : ckm y m = 0 := by unfold ckm; rw [if_pos c, if_neg b]
      rw [e2, show mlR y m = ml y m by unfold mlR; rw [e2]; rfl] at hM
      have b1 : 1 ≤ m := by omega
      have b2 : m ≤ 12 := by omega
      have lb := ml_bd y b1 b2
      have hRM := Lib.hid (fun w => rmonth_any y m w b1 b2)
      have b1' : ¬ m < 1 := by omega
      have b2' : ¬ m > 12 := by omega
      by_cases g : d < 1 ∨ ml y m < d
      · have e1 : ckd y m d = 1 := by unfold ckd; rw [if_pos c, if_neg b, if_pos g]
        rw [e1, show ofR y m d = 0 by unfold ofR; rw [e1]; rfl] at hO
        rw [e1, show nkR y m d = 0 by unfold nkR; rw [e1]; rfl] at hK
        rw [e1] at hC
        clear e1 e2 c g b b1 b2
        generalize yd y = Y at *
        generalize lp y = P at *
        generalize ml y m = M at *
        have HC := Lib.hid hC; clear hC
        go_enter Tryd.func3, Tryd.ntmps3
        go_wp2_with (first
          | (go_at_call 9; refine (hO).mono ?_; rintro e w' ⟨rfl, rfl⟩)
          | (go_at_call 8; refine (hA).mono ?_; rintro e w' ⟨rfl, rfl⟩)
          | (go_at_call 10; refine (hK).mono ?_; rintro e w' ⟨rfl, rfl⟩)
          | (go_at_call 13; refine (hL _).mono ?_; rintro e w' ⟨rfl, rfl⟩)
          | (go_at_call 14; refine (hRL _).mono ?_; rintro e w' ⟨rfl, rfl⟩)
          | (go_at_call 15; refine (hM _ (by assumption)).mono ?_; rintro e w' ⟨rfl, rfl⟩)
          | (go_at_call 16; refine (hY _ (by assumption)).mono ?_; rintro e w' ⟨rfl, rfl⟩)
          | (go_at_call 17; refine (hRY _).mono ?_; rintro e w' ⟨rfl, rfl⟩)
          | (go_at_call 19; refine (hRD _).mono ?_; rintro e w' ⟨rfl, rfl⟩)
          | (go_at_call 22; refine (hRS _).mono ?_; rintro e w' ⟨rfl, rfl⟩)
          | (go_at_call 12; refine (num_any _ _ (by decide) (by decide)).mono ?_; rintro e w' ⟨rfl, rfl⟩)
          | (go_at_call 18; refine (is_any _ _ _ (by decide) (by decide)).mono ?_; rintro e w' ⟨rfl, rfl⟩))
        refine HC.out.mono ?_
        rintro e w1 ⟨rfl, hb⟩
        have E1 := he.below hb
        have B1 := Lib.hid hb
        clear hb
        go_wp2_with (first
          | (go_at_call 9; refine (hO).mono ?_; rintro e w' ⟨rfl, rfl⟩)
          | (go_at_call 8; refine (hA).mono ?_; rintro e w' ⟨rfl, rfl⟩)
          | (go_at_call 10; refine (hK).mono ?_; rintro e w' ⟨rfl, rfl⟩)
          | (go_at_call 13; refine (hL _).mono ?_; rintro e w' ⟨rfl, rfl⟩)
          | (go_at_call 14; refine (hRL _).mono ?_; rintro e w' ⟨rfl, rfl⟩)
          | (go_at_call 15; refine (hM _ (by assumption)).mono ?_; rintro e w' ⟨rfl, rfl⟩)
          | (go_at_call 16; refine (hY _ (by assumption)).mono ?_; rintro e w' ⟨rfl, rfl⟩)
          | (go_at_call 17; refine (hRY _).mono ?_; rintro e w' ⟨rfl, rfl⟩)
          | (go_at_call 19; refine (hRD _).mono ?_; rintro e w' ⟨rfl, rfl⟩)
          | (go_at_call 22; refine (hRS _).mono ?_; rintro e w' ⟨rfl, rfl⟩)
          | (go_at_call 12; refine (num_any _ _ (by decide) (by decide)).mono ?_; rintro e w' ⟨rfl, rfl⟩)
          | (go_at_call 18; refine (is_any _ _ _ (by decide) (by decide)).mono ?_; rintro e w' ⟨rfl, rfl⟩))
        refine (hRM.out _).mono ?_
        rintro e w2 ⟨rfl, hb⟩
        have B2 := Lib.hid (B1.out.trans (hb.mono B1.out.size))
        clear hb
        go_wp2_with fail
        go_ret
        exact ⟨rfl, B2.out⟩
      · have e1 : ckd y m d = 0 := by unfold ckd; rw [if_pos c, if_neg b, if_neg g]
        have hRO := Lib.hid (fun w => rof_any y m d w c b1 b2 (by omega) (by omega))
        rw [e1, show ofR y m d = st y + em y (m - 1) + d - 1 by unfold ofR; rw [e1]; rfl] at hO
        rw [e1, show nkR y m d = em y (m - 1) + d by unfold nkR; rw [e1]; rfl] at hK
        rw [e1] at hC
        have bs := st_in c
        have be := em_bd y (m := m - 1) (by omega) (by omega)
        have dd : 1 ≤ d ∧ d ≤ 31 := by omega
        have K : Hid (st y + em y (m - 1) + d - 1 - st y + 1 = em y (m - 1) + d) := Lib.hid (by omega)
        clear e1 e2 c g b b1 b2
        have HC := Lib.hid hC; clear hC
        have yb := yd_bd y
        generalize yd y = Y at *
        generalize lp y = P at *
        generalize ml y m = M at *
        generalize st y = S at *
        generalize em y (m - 1) = Q at *
        generalize hN : S + Q + d - 1 = n at *
        have nb : -5000000 ≤ n ∧ n ≤ 5000000 := by omega
        generalize hk : Q + d = k at *
        have kb : 0 ≤ k ∧ k ≤ 1000 := by omega
        clear hN hk
        have T : (k == n - S + 1) = true := by rw [K.out]; simp
        go_enter Tryd.func3, Tryd.ntmps3
        go_wp2_with (first
          | (go_at_call 9; refine (hO).mono ?_; rintro e w' ⟨rfl, rfl⟩)
          | (go_at_call 8; refine (hA).mono ?_; rintro e w' ⟨rfl, rfl⟩)
          | (go_at_call 10; refine (hK).mono ?_; rintro e w' ⟨rfl, rfl⟩)
          | (go_at_call 13; refine (hL _).mono ?_; rintro e w' ⟨rfl, rfl⟩)
          | (go_at_call 14; refine (hRL _).mono ?_; rintro e w' ⟨rfl, rfl⟩)
          | (go_at_call 15; refine (hM _ (by assumption)).mono ?_; rintro e w' ⟨rfl, rfl⟩)
          | (go_at_call 16; refine (hY _ (by assumption)).mono ?_; rintro e w' ⟨rfl, rfl⟩)
          | (go_at_call 17; refine (hRY _).mono ?_; rintro e w' ⟨rfl, rfl⟩)
          | (go_at_call 19; refine (hRD _).mono ?_; rintro e w' ⟨rfl, rfl⟩)
          | (go_at_call 22; refine (hRS _).mono ?_; rintro e w' ⟨rfl, rfl⟩)
          | (go_at_call 12; refine (num_any _ _ (by decide) (by decide)).mono ?_; rintro e w' ⟨rfl, rfl⟩)
          | (go_at_call 18; refine (is_any _ _ _ (by decide) (by decide)).mono ?_; rintro e w' ⟨rfl, rfl⟩))
        refine HC.out.mono ?_
        rintro e w1 ⟨rfl, hb⟩
        have E1 := he.below hb
        have B1 := Lib.hid hb
        clear hb
        go_wp2_with (first
          | (go_at_call 9; refine (hO).mono ?_; rintro e w' ⟨rfl, rfl⟩)
          | (go_at_call 8; refine (hA).mono ?_; rintro e w' ⟨rfl, rfl⟩)
          | (go_at_call 10; refine (hK).mono ?_; rintro e w' ⟨rfl, rfl⟩)
          | (go_at_call 13; refine (hL _).mono ?_; rintro e w' ⟨rfl, rfl⟩)
          | (go_at_call 14; refine (hRL _).mono ?_; rintro e w' ⟨rfl, rfl⟩)
          | (go_at_call 15; refine (hM _ (by assumption)).mono ?_; rintro e w' ⟨rfl, rfl⟩)
          | (go_at_call 16; refine (hY _ (by assumption)).mono ?_; rintro e w' ⟨rfl, rfl⟩)
          | (go_at_call 17; refine (hRY _).mono ?_; rintro e w' ⟨rfl, rfl⟩)
          | (go_at_call 19; refine (hRD _).mono ?_; rintro e w' ⟨rfl, rfl⟩)
          | (go_at_call 22; refine (hRS _).mono ?_; rintro e w' ⟨rfl, rfl⟩)
          | (go_at_call 12; refine (num_any _ _ (by decide) (by decide)).mono ?_; rintro e w' ⟨rfl, rfl⟩)
          | (go_at_call 18; refine (is_any _ _ _ (by decide) (by decide)).mono ?_; rintro e w' ⟨rfl, rfl⟩))
        refine (hRM.out _).mono ?_
        rintro e w2 ⟨rfl, hb⟩
        have B2 := Lib.hid (B1.out.trans (hb.mono B1.out.size))
        clear hb
        go_wp2_with fail
        refine (hRO.out _).mono ?_
        rintro e w3 ⟨rfl, hb⟩
        have B3 := Lib.hid (B2.out.trans (hb.mono B2.out.size))
        clear hb
        go_wp2_with (first
          | (go_at_call 9; refine (hO).mono ?_; rintro e w' ⟨rfl, rfl⟩)
          | (go_at_call 8; refine (hA).mono ?_; rintro e w' ⟨rfl, rfl⟩)
          | (go_at_call 10; refine (hK).mono ?_; rintro e w' ⟨rfl, rfl⟩)
          | (go_at_call 13; refine (hL _).mono ?_; rintro e w' ⟨rfl, rfl⟩)
          | (go_at_call 14; refine (hRL _).mono ?_; rintro e w' ⟨rfl, rfl⟩)
          | (go_at_call 15; refine (hM _ (by assumption)).mono ?_; rintro e w' ⟨rfl, rfl⟩)
          | (go_at_call 16; refine (hY _ (by assumption)).mono ?_; rintro e w' ⟨rfl, rfl⟩)
          | (go_at_call 17; refine (hRY _).mono ?_; rintro e w' ⟨rfl, rfl⟩)
          | (go_at_call 19; refine (hRD _).mono ?_; rintro e w' ⟨rfl, rfl⟩)
          | (go_at_call 22; refine (hRS _).mono ?_; rintro e w' ⟨rfl, rfl⟩)
          | (go_at_call 12; refine (num_any _ _ (by decide) (by decide)).mono ?_; rintro e w' ⟨rfl, rfl⟩)
          | (go_at_call 18; refine (is_any _ _ _ (by decide) (by decide)).mono ?_; rintro e w' ⟨rfl, rfl⟩))
        go_ret
        exact ⟨rfl, B3.out⟩
  · rw [show cky y = 13 from if_neg c, show ydR y = 0 from if_neg c] at hY
    rw [decide_eq_false c] at hRY
    have e1 : ckd y m d = 13 := if_neg c
    have e2 : ckm y m = 13 := if_neg c
    rw [e1, show ofR y m d = 0 by unfold ofR; rw [e1]; rfl] at hO
    rw [e1, show nkR y m d = 0 by unfold nkR; rw [e1]; rfl] at hK
    rw [e1] at hC
    rw [e2, show mlR y m = 0 by unfold mlR; rw [e2]; rfl] at hM
    have hRS := hRY
    clear e1 e2 c
    generalize lp y = P at *
    have HC := Lib.hid hC; clear hC
    go_enter Tryd.func3, Tryd.ntmps3
    go_wp2_with (first
      | (go_at_call 9; refine (hO).mono ?_; rintro e w' ⟨rfl, rfl⟩)
      | (go_at_call 8; refine (hA).mono ?_; rintro e w' ⟨rfl, rfl⟩)
      | (go_at_call 10; refine (hK).mono ?_; rintro e w' ⟨rfl, rfl⟩)
      | (go_at_call 13; refine (hL _).mono ?_; rintro e w' ⟨rfl, rfl⟩)
      | (go_at_call 14; refine (hRL _).mono ?_; rintro e w' ⟨rfl, rfl⟩)
      | (go_at_call 15; refine (hM _ (by assumption)).mono ?_; rintro e w' ⟨rfl, rfl⟩)
      | (go_at_call 16; refine (hY _ (by assumption)).mono ?_; rintro e w' ⟨rfl, rfl⟩)
      | (go_at_call 17; refine (hRY _).mono ?_; rintro e w' ⟨rfl, rfl⟩)
      | (go_at_call 19; refine (hRD _).mono ?_; rintro e w' ⟨rfl, rfl⟩)
      | (go_at_call 22; refine (hRS _).mono ?_; rintro e w' ⟨rfl, rfl⟩)
      | (go_at_call 12; refine (num_any _ _ (by decide) (by decide)).mono ?_; rintro e w' ⟨rfl, rfl⟩)
      | (go_at_call 18; refine (is_any _ _ _ (by decide) (by decide)).mono ?_; rintro e w' ⟨rfl, rfl⟩))
    refine HC.out.mono ?_
    rintro e w1 ⟨rfl, hb⟩
    have E1 := he.below hb
    have B1 := Lib.hid hb
    clear hb
    go_wp2_with (first
      | (go_at_call 9; refine (hO).mono ?_; rintro e w' ⟨rfl, rfl⟩)
      | (go_at_call 8; refine (hA).mono ?_; rintro e w' ⟨rfl, rfl⟩)
      | (go_at_call 10; refine (hK).mono ?_; rintro e w' ⟨rfl, rfl⟩)
      | (go_at_call 13; refine (hL _).mono ?_; rintro e w' ⟨rfl, rfl⟩)
      | (go_at_call 14; refine (hRL _).mono ?_; rintro e w' ⟨rfl, rfl⟩)
      | (go_at_call 15; refine (hM _ (by assumption)).mono ?_; rintro e w' ⟨rfl, rfl⟩)
      | (go_at_call 16; refine (hY _ (by assumption)).mono ?_; rintro e w' ⟨rfl, rfl⟩)
      | (go_at_call 17; refine (hRY _).mono ?_; rintro e w' ⟨rfl, rfl⟩)
      | (go_at_call 19; refine (hRD _).mono ?_; rintro e w' ⟨rfl, rfl⟩)
      | (go_at_call 22; refine (hRS _).mono ?_; rintro e w' ⟨rfl, rfl⟩)
      | (go_at_call 12; refine (num_any _ _ (by decide) (by decide)).mono ?_; rintro e w' ⟨rfl, rfl⟩)
      | (go_at_call 18; refine (is_any _ _ _ (by decide) (by decide)).mono ?_; rintro e w' ⟨rfl, rfl⟩))
    go_ret
    exact ⟨rfl, B1.out⟩

set_option maxRecDepth 100000 in
set_option maxHeartbeats 4000000 in
theorem numbers_walk (n : Int) (w : World) (he : Ends w) :
    Calls Tryd.prog 4 #[.int .i64 n] w fun e w' => e = .returned (.bool true) ∧ Below w.heap.size w w' := by
  have hA := alive_any w he
  have q0 := fun op t W x k => guard_ev op t W x k
  have q1 := fun W k => eql_ev W k
  have q2 := fun W k => neq_ev W k
  have hF := fun w => first_any w
  have hT := fun w => last_any w
  have hRF := fun w => rfirst_any w
  have hRT := fun w => rlast_any w
  have hW := fun w => weekday_any n w
  have hRW := Lib.hid (fun w => rweekday_any n w)
  have B0 : Hid (Below w.heap.size w w) := Lib.hid (Below.refl _ _)
  have vb := wd_bd n
  generalize wd n = v at *
  by_cases c : n < -4371587 ∨ 2932896 < n
  · have hD := Lib.hid (date_none n w c)
    rcases (by omega : n < -4371587 ∨ (¬ n < -4371587 ∧ n > 2932896)) with c | ⟨c, c'⟩
    all_goals
      go_enter Tryd.func4, Tryd.ntmps4
      go_wp2_with (first
        | (go_at_call 8; refine (hA).mono ?_; rintro e w' ⟨rfl, rfl⟩)
        | (go_at_call 24; refine (hF _).mono ?_; rintro e w' ⟨rfl, rfl⟩)
        | (go_at_call 26; refine (hT _).mono ?_; rintro e w' ⟨rfl, rfl⟩)
        | (go_at_call 25; refine (hRF _).mono ?_; rintro e w' ⟨rfl, rfl⟩)
        | (go_at_call 27; refine (hRT _).mono ?_; rintro e w' ⟨rfl, rfl⟩)
        | (go_at_call 28; refine (hW _).mono ?_; rintro e w' ⟨rfl, rfl⟩)
        | (go_at_call 12; refine (num_any _ _ (by decide) (by decide)).mono ?_; rintro e w' ⟨rfl, rfl⟩)
        | (go_at_call 18; refine (is_any _ _ _ (by decide) (by decide)).mono ?_; rintro e w' ⟨rfl, rfl⟩))
      refine hD.out.mono ?_
      rintro e w' ⟨rfl, rfl⟩
      go_wp2_with (first
        | (go_at_call 8; refine (hA).mono ?_; rintro e w' ⟨rfl, rfl⟩)
        | (go_at_call 24; refine (hF _).mono ?_; rintro e w' ⟨rfl, rfl⟩)
        | (go_at_call 26; refine (hT _).mono ?_; rintro e w' ⟨rfl, rfl⟩)
        | (go_at_call 25; refine (hRF _).mono ?_; rintro e w' ⟨rfl, rfl⟩)
        | (go_at_call 27; refine (hRT _).mono ?_; rintro e w' ⟨rfl, rfl⟩)
        | (go_at_call 28; refine (hW _).mono ?_; rintro e w' ⟨rfl, rfl⟩)
        | (go_at_call 12; refine (num_any _ _ (by decide) (by decide)).mono ?_; rintro e w' ⟨rfl, rfl⟩)
        | (go_at_call 18; refine (is_any _ _ _ (by decide) (by decide)).mono ?_; rintro e w' ⟨rfl, rfl⟩))
      refine (hRW.out _).mono ?_
      rintro e w1 ⟨rfl, hb⟩
      have B1 := Lib.hid (B0.out.trans (hb.mono B0.out.size))
      clear hb
      go_wp2_with (first
        | (go_at_call 8; refine (hA).mono ?_; rintro e w' ⟨rfl, rfl⟩)
        | (go_at_call 24; refine (hF _).mono ?_; rintro e w' ⟨rfl, rfl⟩)
        | (go_at_call 26; refine (hT _).mono ?_; rintro e w' ⟨rfl, rfl⟩)
        | (go_at_call 25; refine (hRF _).mono ?_; rintro e w' ⟨rfl, rfl⟩)
        | (go_at_call 27; refine (hRT _).mono ?_; rintro e w' ⟨rfl, rfl⟩)
        | (go_at_call 28; refine (hW _).mono ?_; rintro e w' ⟨rfl, rfl⟩)
        | (go_at_call 12; refine (num_any _ _ (by decide) (by decide)).mono ?_; rintro e w' ⟨rfl, rfl⟩)
        | (go_at_call 18; refine (is_any _ _ _ (by decide) (by decide)).mono ?_; rintro e w' ⟨rfl, rfl⟩))
      go_ret
      exact ⟨rfl, B1.out⟩
  · have c1 : ¬ n < -4371587 := by omega
    have c2 : ¬ n > 2932896 := by omega
    obtain ⟨y, m, d, D⟩ := dt_some (n := n) (by omega) (by omega)
    have hD := Lib.hid (date_some n y m d w D he)
    have hRD := Lib.hid (fun w => rdate_some n y m d w D)
    clear D c
    go_enter Tryd.func4, Tryd.ntmps4
    go_wp2_with (first
      | (go_at_call 8; refine (hA).mono ?_; rintro e w' ⟨rfl, rfl⟩)
      | (go_at_call 24; refine (hF _).mono ?_; rintro e w' ⟨rfl, rfl⟩)
      | (go_at_call 26; refine (hT _).mono ?_; rintro e w' ⟨rfl, rfl⟩)
      | (go_at_call 25; refine (hRF _).mono ?_; rintro e w' ⟨rfl, rfl⟩)
      | (go_at_call 27; refine (hRT _).mono ?_; rintro e w' ⟨rfl, rfl⟩)
      | (go_at_call 28; refine (hW _).mono ?_; rintro e w' ⟨rfl, rfl⟩)
      | (go_at_call 12; refine (num_any _ _ (by decide) (by decide)).mono ?_; rintro e w' ⟨rfl, rfl⟩)
      | (go_at_call 18; refine (is_any _ _ _ (by decide) (by decide)).mono ?_; rintro e w' ⟨rfl, rfl⟩))
    refine hD.out.mono ?_
    rintro e w1 ⟨rfl, hb⟩
    have B1 := Lib.hid (B0.out.trans (hb.mono B0.out.size))
    clear hb
    go_wp2_with (first
      | (go_at_call 8; refine (hA).mono ?_; rintro e w' ⟨rfl, rfl⟩)
      | (go_at_call 24; refine (hF _).mono ?_; rintro e w' ⟨rfl, rfl⟩)
      | (go_at_call 26; refine (hT _).mono ?_; rintro e w' ⟨rfl, rfl⟩)
      | (go_at_call 25; refine (hRF _).mono ?_; rintro e w' ⟨rfl, rfl⟩)
      | (go_at_call 27; refine (hRT _).mono ?_; rintro e w' ⟨rfl, rfl⟩)
      | (go_at_call 28; refine (hW _).mono ?_; rintro e w' ⟨rfl, rfl⟩)
      | (go_at_call 12; refine (num_any _ _ (by decide) (by decide)).mono ?_; rintro e w' ⟨rfl, rfl⟩)
      | (go_at_call 18; refine (is_any _ _ _ (by decide) (by decide)).mono ?_; rintro e w' ⟨rfl, rfl⟩))
    refine (hRW.out _).mono ?_
    rintro e w2 ⟨rfl, hb⟩
    have B2 := Lib.hid (B1.out.trans (hb.mono B1.out.size))
    clear hb
    go_wp2_with (first
      | (go_at_call 8; refine (hA).mono ?_; rintro e w' ⟨rfl, rfl⟩)
      | (go_at_call 24; refine (hF _).mono ?_; rintro e w' ⟨rfl, rfl⟩)
      | (go_at_call 26; refine (hT _).mono ?_; rintro e w' ⟨rfl, rfl⟩)
      | (go_at_call 25; refine (hRF _).mono ?_; rintro e w' ⟨rfl, rfl⟩)
      | (go_at_call 27; refine (hRT _).mono ?_; rintro e w' ⟨rfl, rfl⟩)
      | (go_at_call 28; refine (hW _).mono ?_; rintro e w' ⟨rfl, rfl⟩)
      | (go_at_call 12; refine (num_any _ _ (by decide) (by decide)).mono ?_; rintro e w' ⟨rfl, rfl⟩)
      | (go_at_call 18; refine (is_any _ _ _ (by decide) (by decide)).mono ?_; rintro e w' ⟨rfl, rfl⟩))
    refine (hRD.out _).mono ?_
    rintro e w3 ⟨rfl, hb⟩
    have B3 := Lib.hid (B2.out.trans (hb.mono B2.out.size))
    clear hb
    go_wp2_with fail
    go_ret
    exact ⟨rfl, B3.out⟩

set_option maxRecDepth 100000 in
set_option maxHeartbeats 4000000 in
theorem years_walk (y k : Int) (w : World) (he : Ends w) :
    Calls Tryd.prog 5 #[.int .i64 y, .int .i64 k] w fun e w' => e = .returned (.bool true) ∧ Below w.heap.size w w' := by
  have hA := alive_any w he
  have q0 := fun op t W x k => guard_ev op t W x k
  have q1 := fun W k => eql_ev W k
  have q2 := fun W k => neq_ev W k
  have hF := fromyd_any y k w he
  have hS := dstart_any y w
  have hRY := fun w => ryear_any y w
  have hRD := fun w => rdays_any y w
  by_cases c : isy y
  · rw [decide_eq_true c] at hRY
    have hRS := fun w => rstart_any y w (by have := c.1; omega) (by have := c.2; omega)
    have e0 : cks y = 0 := if_neg (by have := c.1; have := c.2; omega)
    rw [e0, show stR y = st y by unfold stR; rw [e0]; rfl] at hS
    have bs := st_in c
    have yb := yd_bd y
    have y1 : ¬ y < -20000 := by have := c.1; omega
    have y2 : ¬ y > 20000 := by have := c.2; omega
    by_cases g : k < 1 ∨ yd y < k
    · have e1 : ckk y k = 1 := by unfold ckk; rw [if_pos c, if_pos g]
      rw [e1, show fyR y k = 0 by unfold fyR; rw [e1]; rfl] at hF
      clear e0 e1 c
      generalize yd y = Y at *
      generalize st y = S at *
      rcases (by omega : k < 1 ∨ (¬ k < 1 ∧ k > Y)) with g | ⟨g, g'⟩
      all_goals
        go_enter Tryd.func5, Tryd.ntmps5
        go_wp2_with (first
          | (go_at_call 8; refine (hA).mono ?_; rintro e w' ⟨rfl, rfl⟩)
          | (go_at_call 31; refine (hF).mono ?_; rintro e w' ⟨rfl, rfl⟩)
          | (go_at_call 32; refine (hS).mono ?_; rintro e w' ⟨rfl, rfl⟩)
          | (go_at_call 22; refine (hRS _).mono ?_; rintro e w' ⟨rfl, rfl⟩)
          | (go_at_call 17; refine (hRY _).mono ?_; rintro e w' ⟨rfl, rfl⟩)
          | (go_at_call 19; refine (hRD _).mono ?_; rintro e w' ⟨rfl, rfl⟩)
          | (go_at_call 12; refine (num_any _ _ (by decide) (by decide)).mono ?_; rintro e w' ⟨rfl, rfl⟩)
          | (go_at_call 18; refine (is_any _ _ _ (by decide) (by decide)).mono ?_; rintro e w' ⟨rfl, rfl⟩))
        go_ret
        exact ⟨rfl, Below.refl _ _⟩
    · have e1 : ckk y k = 0 := by unfold ckk; rw [if_pos c, if_neg g]
      rw [e1, show fyR y k = st y + k - 1 by unfold fyR; rw [e1]; rfl] at hF
      have g1 : ¬ k < 1 := by omega
      have g2 : ¬ k > yd y := by omega
      clear e0 e1 c g
      generalize yd y = Y at *
      generalize st y = S at *
      go_enter Tryd.func5, Tryd.ntmps5
      go_wp2_with (first
        | (go_at_call 8; refine (hA).mono ?_; rintro e w' ⟨rfl, rfl⟩)
        | (go_at_call 31; refine (hF).mono ?_; rintro e w' ⟨rfl, rfl⟩)
        | (go_at_call 32; refine (hS).mono ?_; rintro e w' ⟨rfl, rfl⟩)
        | (go_at_call 22; refine (hRS _).mono ?_; rintro e w' ⟨rfl, rfl⟩)
        | (go_at_call 17; refine (hRY _).mono ?_; rintro e w' ⟨rfl, rfl⟩)
        | (go_at_call 19; refine (hRD _).mono ?_; rintro e w' ⟨rfl, rfl⟩)
        | (go_at_call 12; refine (num_any _ _ (by decide) (by decide)).mono ?_; rintro e w' ⟨rfl, rfl⟩)
        | (go_at_call 18; refine (is_any _ _ _ (by decide) (by decide)).mono ?_; rintro e w' ⟨rfl, rfl⟩))
      go_ret
      exact ⟨rfl, Below.refl _ _⟩
  · rw [decide_eq_false c] at hRY
    have e1 : ckk y k = 13 := if_neg c
    rw [e1, show fyR y k = 0 by unfold fyR; rw [e1]; rfl] at hF
    by_cases g : y < -20000 ∨ 20000 < y
    · have e0 : cks y = 13 := if_pos g
      rw [e0, show stR y = 0 by unfold stR; rw [e0]; rfl] at hS
      have hRS := hRY
      clear e0 e1 c
      rcases (by omega : y < -20000 ∨ (¬ y < -20000 ∧ y > 20000)) with g | ⟨g, g'⟩
      all_goals
        go_enter Tryd.func5, Tryd.ntmps5
        go_wp2_with (first
          | (go_at_call 8; refine (hA).mono ?_; rintro e w' ⟨rfl, rfl⟩)
          | (go_at_call 31; refine (hF).mono ?_; rintro e w' ⟨rfl, rfl⟩)
          | (go_at_call 32; refine (hS).mono ?_; rintro e w' ⟨rfl, rfl⟩)
          | (go_at_call 22; refine (hRS _).mono ?_; rintro e w' ⟨rfl, rfl⟩)
          | (go_at_call 17; refine (hRY _).mono ?_; rintro e w' ⟨rfl, rfl⟩)
          | (go_at_call 19; refine (hRD _).mono ?_; rintro e w' ⟨rfl, rfl⟩)
          | (go_at_call 12; refine (num_any _ _ (by decide) (by decide)).mono ?_; rintro e w' ⟨rfl, rfl⟩)
          | (go_at_call 18; refine (is_any _ _ _ (by decide) (by decide)).mono ?_; rintro e w' ⟨rfl, rfl⟩))
        go_ret
        exact ⟨rfl, Below.refl _ _⟩
    · have e0 : cks y = 0 := if_neg g
      rw [e0, show stR y = st y by unfold stR; rw [e0]; rfl] at hS
      have hRS := fun w => rstart_any y w (by omega) (by omega)
      have y1 : ¬ y < -20000 := by omega
      have y2 : ¬ y > 20000 := by omega
      clear e0 e1 c g
      generalize st y = S at *
      go_enter Tryd.func5, Tryd.ntmps5
      go_wp2_with (first
        | (go_at_call 8; refine (hA).mono ?_; rintro e w' ⟨rfl, rfl⟩)
        | (go_at_call 31; refine (hF).mono ?_; rintro e w' ⟨rfl, rfl⟩)
        | (go_at_call 32; refine (hS).mono ?_; rintro e w' ⟨rfl, rfl⟩)
        | (go_at_call 22; refine (hRS _).mono ?_; rintro e w' ⟨rfl, rfl⟩)
        | (go_at_call 17; refine (hRY _).mono ?_; rintro e w' ⟨rfl, rfl⟩)
        | (go_at_call 19; refine (hRD _).mono ?_; rintro e w' ⟨rfl, rfl⟩)
        | (go_at_call 12; refine (num_any _ _ (by decide) (by decide)).mono ?_; rintro e w' ⟨rfl, rfl⟩)
        | (go_at_call 18; refine (is_any _ _ _ (by decide) (by decide)).mono ?_; rintro e w' ⟨rfl, rfl⟩))
      go_ret
      exact ⟨rfl, Below.refl _ _⟩

set_option maxHeartbeats 1000000 in
theorem weeks_walk (n b : Int) (w : World) (he : Ends w) (hn : -9223372036854775808 ≤ n ∧ n ≤ 9223372036854775807) (hb : 0 ≤ b ∧ b ≤ 65535) :
    Calls Tryd.prog 7 #[.int .i64 n, .int .u16 b] w fun e w' => e = .returned (.bool true) ∧ Below w.heap.size w w' := by
  have hA := alive_any w he
  have b1 := wd_bd n
  rcases (by omega : n > 4611686018427387904 ∨ (¬ n > 4611686018427387904 ∧ n < -4611686018427387904) ∨ (¬ n > 4611686018427387904 ∧ ¬ n < -4611686018427387904)) with c | ⟨c, c'⟩ | ⟨c, c'⟩
  · go_enter Tryd.func7, Tryd.ntmps7
    go_wp2_with (first
      | (go_at_call 8; refine (hA).mono ?_; rintro e w' ⟨rfl, rfl⟩)
      | (go_at_call 28; refine (weekday_any _ _).mono ?_; rintro e w' ⟨rfl, rfl⟩))
    go_ret
    exact ⟨rfl, Below.refl _ _⟩
  · go_enter Tryd.func7, Tryd.ntmps7
    go_wp2_with (first
      | (go_at_call 8; refine (hA).mono ?_; rintro e w' ⟨rfl, rfl⟩)
      | (go_at_call 28; refine (weekday_any _ _).mono ?_; rintro e w' ⟨rfl, rfl⟩))
    go_ret
    exact ⟨rfl, Below.refl _ _⟩
  · have t1 : (wd (n + 1) == wd n % 7 + 1) = true := by rw [beq_iff_eq]; unfold wd; omega
    have t2 : (wd (n + 7 * b) == wd n) = true := by rw [beq_iff_eq]; unfold wd; omega
    go_enter Tryd.func7, Tryd.ntmps7
    go_wp2_with (first
      | (go_at_call 8; refine (hA).mono ?_; rintro e w' ⟨rfl, rfl⟩)
      | (go_at_call 28; refine (weekday_any _ _).mono ?_; rintro e w' ⟨rfl, rfl⟩))
    go_ret
    exact ⟨rfl, Below.refl _ _⟩

end Go.Proofs.YtfofkfpoihhdfaaDoor
