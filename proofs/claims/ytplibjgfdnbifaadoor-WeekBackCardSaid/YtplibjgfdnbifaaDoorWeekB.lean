/- The document's answer for weeks: Monday, Weeks, Of, Day. -/
import Derived.Test.YtplibjgfdnbifaaDoorWeekA
import Derived.Test.YtplibjgfdnbifaaDoorDayG
namespace Go.Proofs.YtplibjgfdnbifaaDoor
open Go.RowKit
set_option linter.unusedVariables false

/-- Thursdays. -/
theorem thu4 (y i t : Int) (h1 : mo y + 3 + 7 * i - 6 ≤ t) (h2 : t ≤ mo y + 3 + 7 * i) : wd t = 4 ↔ t = mo y + 3 + 7 * i := by
  have := mo_mod y; unfold wd; omega
theorem thu_in (y i : Int) : mo y + 3 + 7 * i < st (y + 1) ↔ i < wk y := by
  have a := wk_is y; have b := mo_bd (y + 1); omega
theorem thu_year {n Y : Int} (h : Wk n Y) (x : Int) : st x ≤ n + (4 - wd n) ↔ x ≤ Y := by
  rw [thu]
  obtain ⟨a, b⟩ := h
  rcases (by omega : x < Y ∨ x = Y ∨ x = Y + 1 ∨ Y + 1 < x) with g | rfl | rfl | g
  · have := mo_lt g; omega
  · omega
  · omega
  · have := mo_lt g; omega

set_option maxHeartbeats 1000000 in
theorem rmonday_any (y : Int) (w : World) (h : -20000 ≤ y) (h' : y ≤ 20000) : Calls Tryd.prog 21 #[.int .i64 y] w fun e w' => e = .returned (.int .i64 (mo y)) ∧ Below w.heap.size w w' := by
  have hS := rstart_any y w (by omega) (by omega)
  have bs := st_bd (y := y) (by omega) (by omega)
  have bm := mo_bd y
  have hW := Lib.hid (fun n w => rweekday_any n w)
  have T := Lib.hid (fun t => thu4 y 0 t)
  clear h h'
  generalize mo y = M at *
  generalize st y = s at *
  go_enter Tryd.func21, Tryd.ntmps21
  go_wp2_with (go_at_call 28; refine hS.mono ?_; rintro e w' ⟨rfl, rfl⟩)
  go_loopg [3] 10 (fun g a wr => ∃ t : Int, a = .int .i64 t ∧ s ≤ t ∧ t ≤ M + 3 ∧ M + 3 - t ≤ g ∧ Hid (Below w.heap.size w wr))
  case atStart => exact ⟨s, rfl, by omega, by omega, by omega, Lib.hid (Below.refl _ _)⟩
  case round =>
    obtain ⟨t, rfl, t1, t2, t3, B⟩ := hrel
    have c := T.out t (by omega) (by omega)
    have hw := fun w => hW.out t w
    by_cases g : t = M + 3
    · have e : wd t = 4 := c.2 (by omega)
      rw [e] at hw; clear c e
      subst g
      have HW := Lib.hid hw; clear hw
      go_wp2_with fail
      refine (HW.out _).mono ?_
      rintro e w1 ⟨rfl, hb⟩
      have B1 := Lib.hid (B.out.trans (hb.mono B.out.size)); clear hb
      go_wp2_with fail
      go_ret
      exact ⟨ret1_eq (int_eq (by omega)), B1.out⟩
    · have e : wd t ≠ 4 := fun e => g (by have := c.1 e; omega)
      have vb := wd_bd t
      clear c
      generalize wd t = v at *
      have HW := Lib.hid hw; clear hw
      go_wp2_with fail
      refine (HW.out _).mono ?_
      rintro e w1 ⟨rfl, hb⟩
      have B1 := Lib.hid (B.out.trans (hb.mono B.out.size)); clear hb
      go_wp2_with fail
      go_roundg (M + 3 - (t + 1)).toNat
      case measure => omega
      case rel => exact ⟨t + 1, rfl, by omega, by omega, by omega, B1⟩

set_option maxRecDepth 100000 in
set_option maxHeartbeats 1000000 in
theorem rweeks_any (y : Int) (w : World) (h : -20000 ≤ y) (h' : y ≤ 20000) : Calls Tryd.prog 20 #[.int .i64 y] w fun e w' => e = .returned (.int .i64 (wk y)) ∧ Below w.heap.size w w' := by
  have hS := Lib.hid (fun w => rstart_any y w (by omega) (by omega))
  have hS2 := Lib.hid (fun w => rstart_any (y + 1) w (by omega) (by omega))
  have bs := st_bd (y := y) (by omega) (by omega)
  have bm := mo_bd y
  have hW := Lib.hid (fun n w => rweekday_any n w)
  have T := Lib.hid (fun i t => thu4 y i t)
  have I := Lib.hid (fun i => thu_in y i)
  have bd := yd_bd y
  have b2 : st (y + 1) = st y + yd y := st_succ y
  have kb := wk_bd y
  have e2 : st y + 365 ≤ st (y + 1) ∧ st (y + 1) ≤ st y + 366 := by omega
  clear b2 bd
  generalize wk y = K at *
  generalize mo y = M at *
  generalize st (y + 1) = s2 at *
  generalize st y = s at *
  go_enter Tryd.func20, Tryd.ntmps20
  go_wp2_with (go_at_call 28; refine (hS.out _).mono ?_; rintro e w' ⟨rfl, rfl⟩)
  go_loopg [3, 4] 60 (fun g a b wr => ∃ k i : Int, a = .int .i64 k ∧ b = .int .i64 (s + 7 * i) ∧ 0 ≤ i ∧ i ≤ 53 ∧ 53 - i ≤ g ∧ 0 ≤ k ∧ k ≤ i ∧ k ≤ K ∧ (k = i ∨ k = K) ∧ Hid (Below w.heap.size w wr))
  case atStart => exact ⟨0, 0, rfl, by rw [show s + 7 * 0 = s by omega], by omega, by omega, by omega, by omega, by omega, by omega, Or.inl rfl, Lib.hid (Below.refl _ _)⟩
  case round =>
    obtain ⟨k, i, rfl, rfl, i1, i2, i3, k1, k2, k3, k4, B⟩ := hrel
    by_cases hlt : s + 7 * i < s2
    · have i4 : i ≤ 52 := by omega
      go_wp2_with (go_at_call 28; refine (hS2.out _).mono ?_; rintro e w' ⟨rfl, rfl⟩)
      go_loopg [5] 10 (fun g a wr => ∃ t : Int, a = .int .i64 t ∧ s + 7 * i ≤ t ∧ t ≤ M + 3 + 7 * i ∧ M + 3 + 7 * i - t ≤ g ∧ Hid (Below w.heap.size w wr))
      case atStart => exact ⟨s + 7 * i, rfl, by omega, by omega, by omega, B⟩
      case round =>
        clear B
        obtain ⟨t, rfl, t1, t2, t3, B⟩ := hrel
        have c := T.out i t (by omega) (by omega)
        have hw := fun w => hW.out t w
        have ci := I.out i
        by_cases g : t = M + 3 + 7 * i
        · have e : wd t = 4 := c.2 (by omega)
          rw [e] at hw; clear c e
          subst g
          have HW := Lib.hid hw; clear hw
          by_cases q : i < K
          · have q' : M + 3 + 7 * i < s2 := ci.2 q
            clear ci hlt
            go_wp2_with fail
            refine (HW.out _).mono ?_
            rintro e w1 ⟨rfl, hb⟩
            have B1 := Lib.hid (B.out.trans (hb.mono B.out.size)); clear hb
            go_wp2_with (go_at_call 28; refine (hS2.out _).mono ?_; rintro e w' ⟨rfl, rfl⟩)
            go_roundg (53 - (i + 1)).toNat
            case measure => omega
            case rel => exact ⟨k + 1, i + 1, rfl, by rw [show s + 7 * (i + 1) = s + 7 * i + 7 by omega], by omega, by omega, by omega, by omega, by omega, by omega, by omega, B1⟩
          · have q' : ¬ M + 3 + 7 * i < s2 := fun x => q (ci.1 x)
            clear ci hlt
            go_wp2_with fail
            refine (HW.out _).mono ?_
            rintro e w1 ⟨rfl, hb⟩
            have B1 := Lib.hid (B.out.trans (hb.mono B.out.size)); clear hb
            go_wp2_with (go_at_call 28; refine (hS2.out _).mono ?_; rintro e w' ⟨rfl, rfl⟩)
            go_roundg (53 - (i + 1)).toNat
            case measure => omega
            case rel => exact ⟨k, i + 1, rfl, by rw [show s + 7 * (i + 1) = s + 7 * i + 7 by omega], by omega, by omega, by omega, by omega, by omega, by omega, by omega, B1⟩
        · have e : wd t ≠ 4 := fun e => g (c.1 e)
          have vb := wd_bd t
          clear c ci
          generalize wd t = v at *
          have HW := Lib.hid hw; clear hw
          go_wp2_with fail
          refine (HW.out _).mono ?_
          rintro e w1 ⟨rfl, hb⟩
          have B1 := Lib.hid (B.out.trans (hb.mono B.out.size)); clear hb
          go_wp2_with fail
          go_roundg (M + 3 + 7 * i - (t + 1)).toNat
          case measure => omega
          case rel => exact ⟨t + 1, rfl, by omega, by omega, by omega, B1⟩
    · have e : k = K := by omega
      go_wp2_with (go_at_call 28; refine (hS2.out _).mono ?_; rintro e w' ⟨rfl, rfl⟩)
      go_ret
      exact ⟨ret1_eq (int_eq (by omega)), B.out⟩

set_option maxRecDepth 100000 in
set_option maxHeartbeats 1000000 in
theorem rwof_some (n Y : Int) (w : World) (h1 : -4371587 ≤ n) (h2 : n ≤ 2932896) (hY : Wk n Y) (hy : -9999 ≤ Y ∧ Y ≤ 9999) :
    Calls Tryd.prog 13 #[.int .i64 n] w fun e w' => e = .returned (.tuple #[.int .i64 Y, .int .i64 (wn n Y), .int .i64 (wd n)]) ∧ Below w.heap.size w w' := by
  obtain ⟨y, m, d, hd⟩ := dt_some h1 h2
  have hb := hd.1
  unfold isy at hb
  have HD := Lib.hid (fun w => rdate_some n y m d w hd)
  have HW := Lib.hid (fun w => rweekday_any n w)
  have HS := Lib.hid (fun (x : Int) (a : -30000 ≤ x) (b : x ≤ 30000) w => rstart_any x w a b)
  have HY := Lib.hid (thu_year hY)
  have E := thu_wn hY
  have vb := wd_bd n
  have sb := st_bd (y := Y) (by omega) (by omega)
  have S := Lib.hid (fun (x : Int) (a : -30000 ≤ x) (b : x ≤ 30000) => st_bd a b)
  clear hd hY
  generalize wn n Y = k at *
  generalize wd n = v at *
  go_enter Tryd.func13, Tryd.ntmps13
  go_wp2_with fail
  refine (HW.out _).mono ?_
  rintro e w1 ⟨rfl, hb1⟩
  have B1 := Lib.hid hb1; clear hb1
  go_wp2_with fail
  refine (HD.out _).mono ?_
  rintro e w2 ⟨rfl, hb2⟩
  have B2 := Lib.hid (B1.out.trans (hb2.mono B1.out.size)); clear hb2
  go_wp2_with fail
  go_loopg [7] 30000 (fun g a wr => w2 = wr ∧ ∃ x : Int, a = .int .i64 x ∧ -10000 ≤ x ∧ x ≤ 10000 ∧ x - Y ≤ g)
  case atStart => exact ⟨rfl, y, rfl, by omega, by omega, by omega⟩
  case round =>
    obtain ⟨rfl, x, rfl, x1, x2, x3⟩ := hrel
    have hs := fun w => HS.out x (by omega) (by omega) w
    have c := HY.out x
    have bx := S.out x (by omega) (by omega)
    generalize hsx : st x = s at *
    clear hsx
    have hs' := Lib.hid hs; clear hs
    by_cases q : x ≤ Y
    · have c' : ¬ n + (4 - v) < s := by have := c.2 q; omega
      clear c
      have z1 := x1; have z2 := x2
      clear x1 x2 x3
      go_wp2_with (go_at_call 28; refine (hs'.out _).mono ?_; rintro e w' ⟨rfl, rfl⟩)
      clear c' bx
      go_loopg [7] 30000 (fun g a wr => w2 = wr ∧ ∃ x : Int, a = .int .i64 x ∧ -10000 ≤ x ∧ x ≤ Y ∧ Y - x ≤ g)
      case atStart => exact ⟨rfl, x, rfl, by omega, by omega, by omega⟩
      case round =>
        clear hs' q z1 z2
        obtain ⟨rfl, x, rfl, x1, x2, x3⟩ := hrel
        have hs := fun w => HS.out (x + 1) (by omega) (by omega) w
        have c := HY.out (x + 1)
        have bx := S.out (x + 1) (by omega) (by omega)
        generalize hsx : st (x + 1) = s at *
        clear hsx
        have hs' := Lib.hid hs; clear hs
        by_cases q : x + 1 ≤ Y
        · have c' : n + (4 - v) ≥ s := c.2 q
          clear c
          go_wp2_with (go_at_call 28; refine (hs'.out _).mono ?_; rintro e w' ⟨rfl, rfl⟩)
          go_roundg (Y - (x + 1)).toNat
          case measure => omega
          case rel => exact ⟨rfl, x + 1, rfl, by omega, by omega, by omega⟩
        · have c' : ¬ n + (4 - v) ≥ s := fun a => q (c.1 a)
          clear c
          obtain rfl : Y = x := by omega
          have hz := fun w => HS.out Y (by omega) (by omega) w
          generalize st Y = z at *
          have hz' := Lib.hid hz; clear hz
          have E1 := Lib.hid E.1
          have E2 := E.2
          clear E
          go_wp2_with (go_at_call 28; first | ((with_reducible refine (hs'.out _).mono ?_); rintro e w' ⟨rfl, rfl⟩) | ((with_reducible refine (hz'.out _).mono ?_); rintro e w' ⟨rfl, rfl⟩))
          go_ret3
          exact ⟨ret3_eq rfl (int_eq E1.out) rfl, B2.out⟩
    · have c' : n + (4 - v) < s := by
        rcases Int.lt_or_le (n + (4 - v)) s with a | a
        · exact a
        · exact absurd (c.1 a) q
      clear c
      go_wp2_with (go_at_call 28; refine (hs'.out _).mono ?_; rintro e w' ⟨rfl, rfl⟩)
      go_roundg (x - 1 - Y).toNat
      case measure => omega
      case rel => exact ⟨rfl, x - 1, rfl, by omega, by omega, by omega⟩

set_option maxRecDepth 100000 in
set_option maxHeartbeats 1000000 in
theorem rwday_any (y k d : Int) (w : World) : Calls Tryd.prog 18 #[.int .i64 y, .int .i64 k, .int .i64 d] w fun e w' => e = .returned (.tuple #[.int .i64 (wkN y k d), .int .i64 (wkE y k d)]) ∧ Below w.heap.size w w' := by
  by_cases c : isw y
  · have c' := c
    unfold isw at c'
    have c1 : ¬ y < -10000 := by omega
    have c2 : ¬ y > 10000 := by omega
    have HM := Lib.hid (fun w => rweeks_any y w (by omega) (by omega))
    clear c'
    by_cases b : wdB y k d
    · have e1 : wkE y k d = 1 := by unfold wkE; rw [if_pos c, if_pos b]
      have e2 : wkN y k d = 0 := by unfold wkN; rw [e1]; rfl
      rw [e1, e2]; clear e1 e2 c
      unfold wdB at b
      generalize wk y = m at *
      rcases (by omega : k < 1 ∨ (¬ k < 1 ∧ k > m) ∨ (¬ k < 1 ∧ ¬ k > m ∧ d < 1) ∨ (¬ k < 1 ∧ ¬ k > m ∧ ¬ d < 1 ∧ d > 7)) with b | ⟨b, b'⟩ | ⟨b, b', b''⟩ | ⟨b, b', b'', b3⟩
      · go_enter Tryd.func18, Tryd.ntmps18
        go_wp2_with fail
        go_ret2
        exact ⟨rfl, Below.refl _ _⟩
      all_goals
        go_enter Tryd.func18, Tryd.ntmps18
        go_wp2_with fail
        refine (HM.out _).mono ?_
        rintro e w1 ⟨rfl, hb⟩
        have B1 := Lib.hid hb; clear hb
        go_wp2_with fail
        go_ret2
        exact ⟨rfl, B1.out⟩
    · have H1 := Lib.hid (fun w => rmonday_any y w (by have := c.1; omega) (by have := c.2; omega))
      have hF := Lib.hid (fun w => rfirst_any w)
      have hL := Lib.hid (fun w => rlast_any w)
      have m1 := mo_in (y := y) (by have := c.1; omega) (by have := c.2; omega)
      have m2 := wk_bd y
      have e0 : wkE y k d = if wdF (wdP y k d) then 13 else 0 := by unfold wkE; rw [if_pos c, if_neg b]
      unfold wdB at b
      have b1 : ¬ k < 1 := by omega
      have b2 : ¬ k > wk y := by omega
      have b3 : ¬ d < 1 := by omega
      have b4 : ¬ d > 7 := by omega
      clear b
      by_cases f : wdF (wdP y k d)
      · rw [if_pos f] at e0
        have e2 : wkN y k d = 0 := by unfold wkN; rw [e0]; rfl
        rw [e0, e2]; clear e0 e2 c
        unfold wdF wdP at f
        generalize wk y = m at *
        generalize mo y = q at *
        rcases (by omega : q + (7 * (k - 1) + d - 1) < -4371587 ∨ (¬ q + (7 * (k - 1) + d - 1) < -4371587 ∧ q + (7 * (k - 1) + d - 1) > 2932896)) with f | ⟨f, f'⟩
        all_goals
          go_enter Tryd.func18, Tryd.ntmps18
          go_wp2_with fail
          refine (HM.out _).mono ?_
          rintro e w1 ⟨rfl, hb⟩
          have B1 := Lib.hid hb; clear hb
          go_wp2_with fail
          refine (H1.out _).mono ?_
          rintro e w2 ⟨rfl, hb⟩
          have B2 := Lib.hid (B1.out.trans (hb.mono B1.out.size)); clear hb
          go_wp2_with (first
            | (go_at_call 10; refine (hF.out _).mono ?_; rintro e w' ⟨rfl, rfl⟩)
            | (go_at_call 11; refine (hL.out _).mono ?_; rintro e w' ⟨rfl, rfl⟩))
          go_ret2
          exact ⟨rfl, B2.out⟩
      · rw [if_neg f] at e0
        have e2 : wkN y k d = mo y + (7 * (k - 1) + d - 1) := by unfold wkN; rw [if_pos e0]; rfl
        rw [e0, e2]; clear e0 e2 c
        unfold wdF wdP at f
        generalize wk y = m at *
        generalize mo y = q at *
        have f1 : ¬ q + (7 * (k - 1) + d - 1) < -4371587 := by omega
        have f2 : ¬ q + (7 * (k - 1) + d - 1) > 2932896 := by omega
        clear f
        go_enter Tryd.func18, Tryd.ntmps18
        go_wp2_with fail
        refine (HM.out _).mono ?_
        rintro e w1 ⟨rfl, hb⟩
        have B1 := Lib.hid hb; clear hb
        go_wp2_with fail
        refine (H1.out _).mono ?_
        rintro e w2 ⟨rfl, hb⟩
        have B2 := Lib.hid (B1.out.trans (hb.mono B1.out.size)); clear hb
        go_wp2_with (first
          | (go_at_call 10; refine (hF.out _).mono ?_; rintro e w' ⟨rfl, rfl⟩)
          | (go_at_call 11; refine (hL.out _).mono ?_; rintro e w' ⟨rfl, rfl⟩))
        go_ret2
        exact ⟨rfl, B2.out⟩
  · have e1 : wkE y k d = 13 := if_neg c
    have e2 : wkN y k d = 0 := by unfold wkN; rw [e1]; rfl
    rw [e1, e2]
    unfold isw at c
    clear e1 e2
    rcases (by omega : y < -10000 ∨ (¬ y < -10000 ∧ y > 10000)) with c | ⟨c, c'⟩
    all_goals
      go_enter Tryd.func18, Tryd.ntmps18
      go_wp2_with fail
      go_ret2
      exact ⟨rfl, Below.refl _ _⟩

end Go.Proofs.YtplibjgfdnbifaaDoor
