/- Package week: isYear, monday, Weeks, Monday, Day, Of. -/
import Derived.Test.YtplibjgfdnbifaaDoorWeekM
import Derived.Test.YtplibjgfdnbifaaDoorDayD
namespace Go.Proofs.YtplibjgfdnbifaaDoor
open Go.RowKit
set_option linter.unusedVariables false

theorem isw_any (y : Int) (w : World) : Calls Tryd.prog 34 #[.int .i64 y] w fun e w' => e = .returned (.bool (decide (isw y))) ∧ w = w' := by
  rcases (by omega : (-10000 ≤ y ∧ y ≤ 10000) ∨ (-10000 ≤ y ∧ ¬ y ≤ 10000) ∨ ¬ -10000 ≤ y) with ⟨a, b⟩ | ⟨a, b⟩ | a
  · rw [decide_eq_true (p := isw y) ⟨a, b⟩]
    go_enter Tryd.func34, Tryd.ntmps34
    go_wp2
    go_ret
    exact ⟨rfl, rfl⟩
  · rw [decide_eq_false (p := isw y) (fun h => b h.2)]
    go_enter Tryd.func34, Tryd.ntmps34
    go_wp2
    go_ret
    exact ⟨rfl, rfl⟩
  · rw [decide_eq_false (p := isw y) (fun h => a h.1)]
    go_enter Tryd.func34, Tryd.ntmps34
    go_wp2
    go_ret
    exact ⟨rfl, rfl⟩

theorem monday_any (y : Int) (w : World) (h : -20000 ≤ y) (h' : y ≤ 20000) : Calls Tryd.prog 26 #[.int .i64 y] w fun e w' => e = .returned (.int .i64 (mo y)) ∧ w = w' := by
  have hS := dstart_any y w
  have e1 : stR y = st y := by
    have c : cks y = 0 := by unfold cks; rw [if_neg (by omega)]
    unfold stR; rw [if_pos c]
  rw [e1] at hS
  have hW := weekday_any (st y + 4 - 1) w
  have b := st_bd (y := y) (by omega) (by omega)
  have c := wd_bd (st y + 4 - 1)
  have E : Hid (mo y = st y + 4 - 1 - (wd (st y + 4 - 1) - 1)) := Lib.hid (by unfold mo; rw [show st y + 4 - 1 = st y + 3 by omega])
  clear e1
  generalize cks y = k at *
  generalize mo y = r at *
  generalize wd (st y + 4 - 1) = v at *
  generalize st y = s at *
  go_enter Tryd.func26, Tryd.ntmps26
  go_wp2_with (first
    | (go_at_call 46; refine hS.mono ?_; rintro e w' ⟨rfl, rfl⟩)
    | (go_at_call 24; refine hW.mono ?_; rintro e w' ⟨rfl, rfl⟩))
  go_ret
  exact ⟨ret1_eq (int_eq E.out.symm), rfl⟩

theorem weeks_any (y : Int) (w : World) : Calls Tryd.prog 16 #[.int .i64 y] w fun e w' => e = .returned (.tuple #[.int .i64 (wkR y), ev (cw y)]) ∧ w = w' := by
  have hy := isw_any y w
  by_cases c : isw y
  · rw [show wkR y = wk y from if_pos c, show cw y = 0 from if_pos c]
    have c' := c
    unfold isw at c'
    have h1 := monday_any y w (by omega) (by omega)
    have h2 := monday_any (y + 1) w (by omega) (by omega)
    have b1 := mo_in (y := y) (by omega) (by omega)
    have b2 := mo_in (y := y + 1) (by omega) (by omega)
    have g : 0 ≤ mo (y + 1) - mo y := by have := mo_lt (show y < y + 1 by omega); omega
    rw [decide_eq_true c] at hy
    have E : Hid (wk y = (mo (y + 1) - mo y) / 7) := Lib.hid rfl
    clear c
    generalize wk y = k at *
    generalize mo (y + 1) = p at *
    generalize mo y = q at *
    go_enter Tryd.func16, Tryd.ntmps16
    go_wp2_with (first
      | (go_at_call 34; refine hy.mono ?_; rintro e w' ⟨rfl, rfl⟩)
      | (go_at_call 26; ((with_reducible refine h1.mono ?_); rintro e w' ⟨rfl, rfl⟩))
      | (go_at_call 26; ((with_reducible refine h2.mono ?_); rintro e w' ⟨rfl, rfl⟩)))
    go_ret2
    exact ⟨ret2_eq (int_eq E.out.symm) rfl, rfl⟩
  · rw [show wkR y = 0 from if_neg c, show cw y = 13 from if_neg c, ev_pos (by decide)]
    rw [decide_eq_false c] at hy
    clear c
    go_enter Tryd.func16, Tryd.ntmps16
    go_wp2_with (go_at_call 34; refine hy.mono ?_; rintro e w' ⟨rfl, rfl⟩)
    go_ret2
    exact ⟨rfl, rfl⟩

theorem Monday_any (y : Int) (w : World) : Calls Tryd.prog 17 #[.int .i64 y] w fun e w' => e = .returned (.tuple #[.int .i64 (moR y), ev (cw y)]) ∧ w = w' := by
  have hy := isw_any y w
  by_cases c : isw y
  · rw [show moR y = mo y from if_pos c, show cw y = 0 from if_pos c]
    have h1 := monday_any y w (by have := c.1; omega) (by have := c.2; omega)
    rw [decide_eq_true c] at hy
    clear c
    generalize mo y = q at *
    go_enter Tryd.func17, Tryd.ntmps17
    go_wp2_with (first
      | (go_at_call 34; refine hy.mono ?_; rintro e w' ⟨rfl, rfl⟩)
      | (go_at_call 26; refine h1.mono ?_; rintro e w' ⟨rfl, rfl⟩))
    go_ret2
    exact ⟨rfl, rfl⟩
  · rw [show moR y = 0 from if_neg c, show cw y = 13 from if_neg c, ev_pos (by decide)]
    rw [decide_eq_false c] at hy
    clear c
    go_enter Tryd.func17, Tryd.ntmps17
    go_wp2_with (go_at_call 34; refine hy.mono ?_; rintro e w' ⟨rfl, rfl⟩)
    go_ret2
    exact ⟨rfl, rfl⟩

theorem wday_any (y k d : Int) (w : World) : Calls Tryd.prog 15 #[.int .i64 y, .int .i64 k, .int .i64 d] w fun e w' => e = .returned (.tuple #[.int .i64 (wkN y k d), ev (wkE y k d)]) ∧ w = w' := by
  have hM := weeks_any y w
  have q0 := fun op t x k => guard_ev op t w x k
  have q2 := fun k => neq_ev w k
  by_cases c : isw y
  · rw [show wkR y = wk y from if_pos c, show cw y = 0 from if_pos c] at hM
    by_cases b : wdB y k d
    · have e1 : wkE y k d = 1 := by unfold wkE; rw [if_pos c, if_pos b]
      have e2 : wkN y k d = 0 := by unfold wkN; rw [e1]; rfl
      rw [e1, e2, ev_pos (by decide)]; clear e1 e2 c
      unfold wdB at b
      generalize wk y = m at *
      rcases (by omega : k < 1 ∨ (¬ k < 1 ∧ k > m) ∨ (¬ k < 1 ∧ ¬ k > m ∧ d < 1) ∨ (¬ k < 1 ∧ ¬ k > m ∧ ¬ d < 1 ∧ d > 7)) with b | ⟨b, b'⟩ | ⟨b, b', b''⟩ | ⟨b, b', b'', b3⟩
      all_goals
        go_enter Tryd.func15, Tryd.ntmps15
        go_wp2_with (go_at_call 16; refine hM.mono ?_; rintro e w' ⟨rfl, rfl⟩)
        go_ret2
        exact ⟨rfl, rfl⟩
    · have h1 := monday_any y w (by have := c.1; omega) (by have := c.2; omega)
      have hF := first_any w
      have hL := last_any w
      have m1 := mo_in (y := y) (by have := c.1; omega) (by have := c.2; omega)
      have m2 := wk_bd y
      have e0 : wkE y k d = if wdF (wdP y k d) then 13 else 0 := by unfold wkE; rw [if_pos c, if_neg b]
      unfold wdB at b
      have b1 : ¬ k < 1 := by omega
      have b2 : ¬ k > wk y := by omega
      have b3 : ¬ d < 1 := by omega
      have b4 : ¬ d > 7 := by omega
      clear b
      by_cases f : wdF (wdP y k d)
      · rw [if_pos f] at e0
        have e2 : wkN y k d = 0 := by unfold wkN; rw [e0]; rfl
        rw [e0, e2, ev_pos (by decide)]; clear e0 e2 c
        unfold wdF wdP at f
        generalize wk y = m at *
        generalize mo y = q at *
        rcases (by omega : q + (7 * (k - 1) + d - 1) < -4371587 ∨ (¬ q + (7 * (k - 1) + d - 1) < -4371587 ∧ q + (7 * (k - 1) + d - 1) > 2932896)) with f | ⟨f, f'⟩
        all_goals
          go_enter Tryd.func15, Tryd.ntmps15
          go_wp2_with (first
            | (go_at_call 16; refine hM.mono ?_; rintro e w' ⟨rfl, rfl⟩)
            | (go_at_call 26; refine h1.mono ?_; rintro e w' ⟨rfl, rfl⟩)
            | (go_at_call 32; refine hF.mono ?_; rintro e w' ⟨rfl, rfl⟩)
            | (go_at_call 33; refine hL.mono ?_; rintro e w' ⟨rfl, rfl⟩))
          go_ret2
          exact ⟨rfl, rfl⟩
      · rw [if_neg f] at e0
        have e2 : wkN y k d = mo y + (7 * (k - 1) + d - 1) := by unfold wkN; rw [if_pos e0]; rfl
        rw [e0, e2]; clear e0 e2 c
        unfold wdF wdP at f
        generalize wk y = m at *
        generalize mo y = q at *
        have f1 : ¬ q + (7 * (k - 1) + d - 1) < -4371587 := by omega
        have f2 : ¬ q + (7 * (k - 1) + d - 1) > 2932896 := by omega
        clear f
        go_enter Tryd.func15, Tryd.ntmps15
        go_wp2_with (first
          | (go_at_call 16; refine hM.mono ?_; rintro e w' ⟨rfl, rfl⟩)
          | (go_at_call 26; refine h1.mono ?_; rintro e w' ⟨rfl, rfl⟩)
          | (go_at_call 32; refine hF.mono ?_; rintro e w' ⟨rfl, rfl⟩)
          | (go_at_call 33; refine hL.mono ?_; rintro e w' ⟨rfl, rfl⟩))
        go_ret2
        exact ⟨rfl, rfl⟩
  · have e1 : wkE y k d = 13 := if_neg c
    have e2 : wkN y k d = 0 := by unfold wkN; rw [e1]; rfl
    rw [e1, e2]
    rw [show cw y = 13 from if_neg c] at hM
    clear c e1 e2
    generalize wkR y = m at *
    go_enter Tryd.func15, Tryd.ntmps15
    go_wp2_with (go_at_call 16; refine hM.mono ?_; rintro e w' ⟨rfl, rfl⟩)
    go_ret2
    exact ⟨rfl, rfl⟩

theorem wof_none (n : Int) (w : World) (hn : n < -4371587 ∨ 2932896 < n) :
    Calls Tryd.prog 8 #[.int .i64 n] w fun e w' => e = .returned (.tuple #[.int .i64 0, .int .i64 0, .int .i64 0, ev 13]) ∧ w = w' := by
  have hD := date_none n w hn
  have q0 := fun op t x k => guard_ev op t w x k
  have q2 := fun k => neq_ev w k
  clear hn
  go_enter Tryd.func8, Tryd.ntmps8
  go_wp2_with (go_at_call 25; refine hD.mono ?_; rintro e w' ⟨rfl, rfl⟩)
  (try simp only [Exit.inBlock, Exit.then])
  refine bodyPost_ret (results_tmp4 rfl _ _ _) rfl ?_
  exact ⟨rfl, rfl⟩

set_option maxRecDepth 100000 in
theorem ix3 (W : World) (a b c : Value) : (Instr.index 50 (.agg #[a, b, c]) (.int .i64 0)).run Tryd.prog W = .ok a W ∧ (Instr.index 50 (.agg #[a, b, c]) (.int .i64 1)).run Tryd.prog W = .ok b W ∧
    (Instr.index 50 (.agg #[a, b, c]) (.int .i64 2)).run Tryd.prog W = .ok c W := ⟨by kernel_rfl, by kernel_rfl, by kernel_rfl⟩

set_option maxRecDepth 100000 in
set_option maxHeartbeats 1000000 in
theorem wof_some (n Y : Int) (w : World) (h1 : -4371587 ≤ n) (h2 : n ≤ 2932896) (hY : Wk n Y) (he : Ends w) :
    Calls Tryd.prog 8 #[.int .i64 n] w fun e w' => e = .returned (.tuple #[.int .i64 Y, .int .i64 (wn n Y), .int .i64 (wd n), ev 0]) ∧ Below w.heap.size w w' := by
  obtain ⟨y, m, d, hd⟩ := dt_some h1 h2
  have hD := date_some n y m d w hd he
  have hy := hd.1
  unfold isy at hy
  have q0 := fun op t W x k => guard_ev op t W x k
  have q2 := fun W k => neq_ev W k
  have i0 := fun W a b c => (ix3 W a b c).1
  have i1 := fun W a b c => (ix3 W a b c).2.1
  have i2 := fun W a b c => (ix3 W a b c).2.2
  have M0 := Lib.hid (fun w => monday_any (y - 1) w (by omega) (by omega))
  have M1 := Lib.hid (fun w => monday_any y w (by omega) (by omega))
  have M2 := Lib.hid (fun w => monday_any (y + 1) w (by omega) (by omega))
  have HW := Lib.hid (fun w => weekday_any n w)
  obtain ⟨g0, hn⟩ := hd.near
  have key : (Y = y - 1 ∧ ¬ mo y ≤ n ∧ ¬ mo (y + 1) ≤ n) ∨ (Y = y ∧ mo y ≤ n ∧ ¬ mo (y + 1) ≤ n) ∨ (Y = y + 1 ∧ mo y ≤ n ∧ mo (y + 1) ≤ n) := by
    rcases hn with ⟨g, a, b⟩ | ⟨g, a, b⟩ | ⟨g, a, b⟩
    · exact Or.inl ⟨hY.one g, a, b⟩
    · exact Or.inr (Or.inl ⟨hY.one g, a, b⟩)
    · exact Or.inr (Or.inr ⟨hY.one g, a, b⟩)
  have k0 := mo_in (y := y - 1) (by omega) (by omega)
  have k1 := mo_in (y := y) (by omega) (by omega)
  have k2 := mo_in (y := y + 1) (by omega) (by omega)
  have E : Hid (wn n Y = (n - mo Y) / 7 + 1) := Lib.hid rfl
  have pos : 0 ≤ n - mo Y := by have := hY.1; omega
  clear hn hY hd he
  have HD := Lib.hid hD; clear hD
  generalize wn n Y = kk at *
  generalize wd n = v at *
  rcases key with ⟨hz, a, b⟩ | ⟨hz, a, b⟩ | ⟨hz, a, b⟩
  · subst hz
    generalize mo (y - 1) = p0 at *
    generalize mo (y) = p1 at *
    generalize mo (y + 1) = p2 at *
    go_enter Tryd.func8, Tryd.ntmps8
    go_wp2_with fail
    refine HD.out.mono ?_
    rintro e W1 ⟨rfl, hb⟩
    have B := Lib.hid hb; clear hb
    go_wp2_with fail
    go_loopg [27, 2] 3 (fun k s27 s2 wr => wr = W1 ∧ ((k = 3 ∧ s27 = .int .i64 0 ∧ s2 = .int .i64 0) ∨ (k = 2 ∧ s27 = .int .i64 1 ∧ s2 = .int .i64 (y - 1)) ∨ (k = 1 ∧ s27 = .int .i64 2 ∧ s2 = .int .i64 (y - 1)) ∨ (k = 0 ∧ s27 = .int .i64 3 ∧ s2 = .int .i64 (y - 1))))
    case atStart => exact ⟨rfl, Or.inl ⟨rfl, rfl, rfl⟩⟩
    case round =>
      obtain ⟨rfl, h⟩ := hrel
      rcases h with ⟨rfl, rfl, rfl⟩ | ⟨rfl, rfl, rfl⟩ | ⟨rfl, rfl, rfl⟩ | ⟨rfl, rfl, rfl⟩
      · go_wp2_with (go_at_call 26; refine (M0.out _).mono ?_; rintro e w' ⟨rfl, rfl⟩)
        go_roundg 2
        case measure => omega
        case rel => exact ⟨rfl, Or.inr (Or.inl ⟨rfl, rfl, rfl⟩)⟩
      · go_wp2_with (go_at_call 26; refine (M1.out _).mono ?_; rintro e w' ⟨rfl, rfl⟩)
        go_roundg 1
        case measure => omega
        case rel => exact ⟨rfl, Or.inr (Or.inr (Or.inl ⟨rfl, rfl, rfl⟩))⟩
      · go_wp2_with (go_at_call 26; refine (M2.out _).mono ?_; rintro e w' ⟨rfl, rfl⟩)
        go_roundg 0
        case measure => omega
        case rel => exact ⟨rfl, Or.inr (Or.inr (Or.inr ⟨rfl, rfl, rfl⟩))⟩
      · go_wp2_with (first
          | (go_at_call 26; refine (M0.out _).mono ?_; rintro e w' ⟨rfl, rfl⟩)
          | (go_at_call 24; refine (HW.out _).mono ?_; rintro e w' ⟨rfl, rfl⟩))
        (try simp only [Exit.inBlock, Exit.then])
        refine bodyPost_ret (results_tmp4 rfl _ _ _) rfl ?_
        exact ⟨ret4_eq rfl (int_eq E.out.symm) rfl rfl, B.out⟩
  · subst hz
    generalize mo (Y - 1) = p0 at *
    generalize mo (Y) = p1 at *
    generalize mo (Y + 1) = p2 at *
    go_enter Tryd.func8, Tryd.ntmps8
    go_wp2_with fail
    refine HD.out.mono ?_
    rintro e W1 ⟨rfl, hb⟩
    have B := Lib.hid hb; clear hb
    go_wp2_with fail
    go_loopg [27, 2] 3 (fun k s27 s2 wr => wr = W1 ∧ ((k = 3 ∧ s27 = .int .i64 0 ∧ s2 = .int .i64 0) ∨ (k = 2 ∧ s27 = .int .i64 1 ∧ s2 = .int .i64 (Y - 1)) ∨ (k = 1 ∧ s27 = .int .i64 2 ∧ s2 = .int .i64 (Y)) ∨ (k = 0 ∧ s27 = .int .i64 3 ∧ s2 = .int .i64 (Y))))
    case atStart => exact ⟨rfl, Or.inl ⟨rfl, rfl, rfl⟩⟩
    case round =>
      obtain ⟨rfl, h⟩ := hrel
      rcases h with ⟨rfl, rfl, rfl⟩ | ⟨rfl, rfl, rfl⟩ | ⟨rfl, rfl, rfl⟩ | ⟨rfl, rfl, rfl⟩
      · go_wp2_with (go_at_call 26; refine (M0.out _).mono ?_; rintro e w' ⟨rfl, rfl⟩)
        go_roundg 2
        case measure => omega
        case rel => exact ⟨rfl, Or.inr (Or.inl ⟨rfl, rfl, rfl⟩)⟩
      · go_wp2_with (go_at_call 26; refine (M1.out _).mono ?_; rintro e w' ⟨rfl, rfl⟩)
        go_roundg 1
        case measure => omega
        case rel => exact ⟨rfl, Or.inr (Or.inr (Or.inl ⟨rfl, rfl, rfl⟩))⟩
      · go_wp2_with (go_at_call 26; refine (M2.out _).mono ?_; rintro e w' ⟨rfl, rfl⟩)
        go_roundg 0
        case measure => omega
        case rel => exact ⟨rfl, Or.inr (Or.inr (Or.inr ⟨rfl, rfl, rfl⟩))⟩
      · go_wp2_with (first
          | (go_at_call 26; refine (M1.out _).mono ?_; rintro e w' ⟨rfl, rfl⟩)
          | (go_at_call 24; refine (HW.out _).mono ?_; rintro e w' ⟨rfl, rfl⟩))
        (try simp only [Exit.inBlock, Exit.then])
        refine bodyPost_ret (results_tmp4 rfl _ _ _) rfl ?_
        exact ⟨ret4_eq rfl (int_eq E.out.symm) rfl rfl, B.out⟩
  · subst hz
    generalize mo (y - 1) = p0 at *
    generalize mo (y) = p1 at *
    generalize mo (y + 1) = p2 at *
    go_enter Tryd.func8, Tryd.ntmps8
    go_wp2_with fail
    refine HD.out.mono ?_
    rintro e W1 ⟨rfl, hb⟩
    have B := Lib.hid hb; clear hb
    go_wp2_with fail
    go_loopg [27, 2] 3 (fun k s27 s2 wr => wr = W1 ∧ ((k = 3 ∧ s27 = .int .i64 0 ∧ s2 = .int .i64 0) ∨ (k = 2 ∧ s27 = .int .i64 1 ∧ s2 = .int .i64 (y - 1)) ∨ (k = 1 ∧ s27 = .int .i64 2 ∧ s2 = .int .i64 (y)) ∨ (k = 0 ∧ s27 = .int .i64 3 ∧ s2 = .int .i64 (y + 1))))
    case atStart => exact ⟨rfl, Or.inl ⟨rfl, rfl, rfl⟩⟩
    case round =>
      obtain ⟨rfl, h⟩ := hrel
      rcases h with ⟨rfl, rfl, rfl⟩ | ⟨rfl, rfl, rfl⟩ | ⟨rfl, rfl, rfl⟩ | ⟨rfl, rfl, rfl⟩
      · go_wp2_with (go_at_call 26; refine (M0.out _).mono ?_; rintro e w' ⟨rfl, rfl⟩)
        go_roundg 2
        case measure => omega
        case rel => exact ⟨rfl, Or.inr (Or.inl ⟨rfl, rfl, rfl⟩)⟩
      · go_wp2_with (go_at_call 26; refine (M1.out _).mono ?_; rintro e w' ⟨rfl, rfl⟩)
        go_roundg 1
        case measure => omega
        case rel => exact ⟨rfl, Or.inr (Or.inr (Or.inl ⟨rfl, rfl, rfl⟩))⟩
      · go_wp2_with (go_at_call 26; refine (M2.out _).mono ?_; rintro e w' ⟨rfl, rfl⟩)
        go_roundg 0
        case measure => omega
        case rel => exact ⟨rfl, Or.inr (Or.inr (Or.inr ⟨rfl, rfl, rfl⟩))⟩
      · go_wp2_with (first
          | (go_at_call 26; refine (M2.out _).mono ?_; rintro e w' ⟨rfl, rfl⟩)
          | (go_at_call 24; refine (HW.out _).mono ?_; rintro e w' ⟨rfl, rfl⟩))
        (try simp only [Exit.inBlock, Exit.then])
        refine bodyPost_ret (results_tmp4 rfl _ _ _) rfl ?_
        exact ⟨ret4_eq rfl (int_eq E.out.symm) rfl rfl, B.out⟩

end Go.Proofs.YtplibjgfdnbifaaDoor
