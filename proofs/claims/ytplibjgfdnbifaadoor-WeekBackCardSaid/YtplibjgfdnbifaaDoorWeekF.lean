/- The statement WeekBack. -/
import Derived.Test.YtplibjgfdnbifaaDoorWeekE
import Derived.Test.YtplibjgfdnbifaaDoorThree
namespace Go.Proofs.YtplibjgfdnbifaaDoor
open Go.RowKit
set_option linter.unusedVariables false

/-- What lies beside a week's day. -/
theorem beside (a b c : Int) : wkE a b c ≠ 0 ∨ (wkE a b c = 0 ∧ -4371587 ≤ wkN a b c ∧ wkN a b c ≤ 2932896 ∧ Wk (wkN a b c) a ∧ wn (wkN a b c) a = b ∧ wd (wkN a b c) = c ∧ isw a ∧ 1 ≤ b ∧ b ≤ 53 ∧ 1 ≤ c ∧ c ≤ 7 ∧
    ∃ r : Int, c.tmod 7 = r ∧ 0 ≤ r ∧ r ≤ 6 ∧ (wkE a b (r + 1) ≠ 0 ∨ (wkE a b (r + 1) = 0 ∧ c = 7) ∨ (wkE a b (r + 1) = 0 ∧ c ≠ 7 ∧ wkN a b (r + 1) = wkN a b c + 1))) := by
  by_cases h : wkE a b c = 0
  · obtain ⟨e1, e2, e3, e4, e5, e6, e7, e8⟩ := wdE_wk h
    rw [e1]
    have kb := wk_bd a
    unfold wdB at e8
    have T : c.tmod 7 = c % 7 := Int.tmod_eq_emod_of_nonneg (by omega)
    refine Or.inr ⟨h, e5, e6, e2, e3, e4, e7, by omega, by omega, by omega, by omega, ?_⟩
    refine ⟨c.tmod 7, rfl, by omega, by omega, ?_⟩
    by_cases g : wkE a b (c.tmod 7 + 1) = 0
    · by_cases s : c = 7
      · exact Or.inr (Or.inl ⟨g, s⟩)
      · refine Or.inr (Or.inr ⟨g, s, ?_⟩)
        have t : c.tmod 7 = c := by omega
        rw [t] at g ⊢
        rw [(wdE_wk g).1]
        unfold wdP
        omega
    · exact Or.inl g
  · exact Or.inl h

/-- A week's year lies within the years. -/
theorem wk_year {n Y : Int} (h1 : -4371587 ≤ n) (h2 : n ≤ 2932896) (h : Wk n Y) : -9999 ≤ Y ∧ Y ≤ 9999 := by
  obtain ⟨Z, hZ, a, b⟩ := wk_some h1 h2
  rw [h.one hZ]; exact ⟨a, b⟩

set_option maxRecDepth 100000 in
set_option maxHeartbeats 8000000 in
theorem back_walk6 (n a b c : Int) (w : World) (he : Ends w) (ht : Tab w) :
    Calls Tryd.prog 6 #[.int .i64 n, .agg #[.int .i64 a, .int .i64 b, .int .i64 c]] w fun e w' => e = .returned (.bool true) ∧ Below w.heap.size w w' := by
  have q0 := fun op t W x k => guard_ev op t W x k
  have q1 := fun W k => eql_ev W k
  have q2 := fun W k => neq_ev W k
  obtain ⟨W0, hW0⟩ : ∃ W0, W0 = w.alloc (.cells #[.int .i64 a, .int .i64 b, .int .i64 c] 50) := ⟨_, rfl⟩
  have hB0 : Below w.heap.size w W0 := by rw [hW0]; exact (Below.refl _ w).alloc (Nat.le_refl _) _
  have B0 := Lib.hid hB0
  have hE0 := he.below hB0; have hT0 := ht.below hB0
  have HA := Lib.hid (walive_any W0 hE0 hT0)
  have E0 := Lib.hid hE0; have T0 := Lib.hid hT0
  have hc : W0.heap[w.heap.size]? = some (.cells #[.int .i64 a, .int .i64 b, .int .i64 c] 50 (0, 0)) := by rw [hW0]; exact heap_alloc_new w _
  have hs : w.heap.size < W0.heap.size := by rw [hW0]; simp
  have HC := Lib.hid hc
  have HS := Lib.hid hs
  have HX := Lib.hid hW0
  clear hc hs hB0 he ht hE0 hT0 hW0
  have HDa := Lib.hid (fun w => wday_any a b c w)
  have hb6 := beside a b c
  by_cases g0 : n < -4371587 ∨ 2932896 < n
  · have HOn := Lib.hid (fun w => wof_none n w g0)
    clear g0
    rcases hb6 with d1 | ⟨d1, x1, x2, x3, x4, x5, x6, y1, y2, z1, z2, r, hr, r1, r2, g | ⟨g1, g2⟩ | ⟨g1, g2, g3⟩⟩
    · have d2 := ne_z d1
      clear d1
      generalize wkE a b c = E at *
      generalize wkN a b c = x at *
      go_enter Tryd.func6, Tryd.ntmps6
      go_wp2_with fail
      rw [← HX.out]
      refine HA.out.mono ?_
      rintro e w1 ⟨rfl, hb⟩
      have B1 := Lib.hid (B0.out.trans (hb.mono B0.out.size))
      have E1 := Lib.hid (E0.out.below hb); have T1 := Lib.hid (T0.out.below hb)
      obtain ⟨k0, k1, k2⟩ := three_cells HC.out HS.out hb
      clear hb
      go_wp2_with fail
      go_quiet (fail)
      have B2 := Lib.hid (B1.out.trans ⟨rfl, rfl, rfl, Nat.le_refl _, fun _ _ => rfl⟩ : Below w.heap.size w (w1.drewN nq))
      have E2 : RowKit.Hid (Ends (w1.drewN nq)) := Lib.hid E1.out
      have T2 : RowKit.Hid (Tab (w1.drewN nq)) := Lib.hid T1.out
      generalize w1.drewN nq = w2 at *
      clear k0 k1 k2
      go_wp2_with (go_at_call 8; ((with_reducible refine (HOn.out _).mono ?_); rintro e w' ⟨rfl, rfl⟩))
      go_wp2_with (go_at_call 15; ((with_reducible refine (HDa.out _).mono ?_); rintro e w' ⟨rfl, rfl⟩))
      go_ret
      exact ⟨rfl, B2.out⟩
    · have HOx := Lib.hid (fun w he => wof_some (wkN a b c) a w x1 x2 x3 he)
      rw [x4, x5] at HOx
      have HDb := Lib.hid (fun w => wday_any a b (r + 1) w)
      rw [d1] at HDa
      clear x3 x4 x5 x6 d1
      have g2 := ne_z g
      clear g
      generalize wkE a b (r + 1) = E at *
      generalize wkN a b (r + 1) = N at *
      generalize wkN a b c = x at *
      go_enter Tryd.func6, Tryd.ntmps6
      go_wp2_with fail
      rw [← HX.out]
      refine HA.out.mono ?_
      rintro e w1 ⟨rfl, hb⟩
      have B1 := Lib.hid (B0.out.trans (hb.mono B0.out.size))
      have E1 := Lib.hid (E0.out.below hb); have T1 := Lib.hid (T0.out.below hb)
      obtain ⟨k0, k1, k2⟩ := three_cells HC.out HS.out hb
      clear hb
      go_wp2_with fail
      go_quiet (fail)
      have B2 := Lib.hid (B1.out.trans ⟨rfl, rfl, rfl, Nat.le_refl _, fun _ _ => rfl⟩ : Below w.heap.size w (w1.drewN nq))
      have E2 : RowKit.Hid (Ends (w1.drewN nq)) := Lib.hid E1.out
      have T2 : RowKit.Hid (Tab (w1.drewN nq)) := Lib.hid T1.out
      generalize w1.drewN nq = w2 at *
      clear k0 k1 k2
      go_wp2_with (go_at_call 8; ((with_reducible refine (HOn.out _).mono ?_); rintro e w' ⟨rfl, rfl⟩))
      go_wp2_with (go_at_call 15; ((with_reducible refine (HDa.out _).mono ?_); rintro e w' ⟨rfl, rfl⟩))
      refine (HOx.out _ E2.out).mono ?_
      rintro e w9 ⟨rfl, hb⟩
      have B9 := Lib.hid (B2.out.trans (hb.mono B2.out.size)); clear hb
      go_wp2_with (go_at_call 15; refine (HDb.out _).mono ?_; rintro e w' ⟨rfl, rfl⟩)
      go_ret
      exact ⟨rfl, B9.out⟩
    · have HOx := Lib.hid (fun w he => wof_some (wkN a b c) a w x1 x2 x3 he)
      rw [x4, x5] at HOx
      have HDb := Lib.hid (fun w => wday_any a b (r + 1) w)
      rw [d1] at HDa
      clear x3 x4 x5 x6 d1
      rw [g1] at HDb
      have g2' : (c == 7) = true := beq_iff_eq.2 g2
      clear g1 g2
      generalize wkN a b (r + 1) = N at *
      generalize wkN a b c = x at *
      go_enter Tryd.func6, Tryd.ntmps6
      go_wp2_with fail
      rw [← HX.out]
      refine HA.out.mono ?_
      rintro e w1 ⟨rfl, hb⟩
      have B1 := Lib.hid (B0.out.trans (hb.mono B0.out.size))
      have E1 := Lib.hid (E0.out.below hb); have T1 := Lib.hid (T0.out.below hb)
      obtain ⟨k0, k1, k2⟩ := three_cells HC.out HS.out hb
      clear hb
      go_wp2_with fail
      go_quiet (fail)
      have B2 := Lib.hid (B1.out.trans ⟨rfl, rfl, rfl, Nat.le_refl _, fun _ _ => rfl⟩ : Below w.heap.size w (w1.drewN nq))
      have E2 : RowKit.Hid (Ends (w1.drewN nq)) := Lib.hid E1.out
      have T2 : RowKit.Hid (Tab (w1.drewN nq)) := Lib.hid T1.out
      generalize w1.drewN nq = w2 at *
      clear k0 k1 k2
      go_wp2_with (go_at_call 8; ((with_reducible refine (HOn.out _).mono ?_); rintro e w' ⟨rfl, rfl⟩))
      go_wp2_with (go_at_call 15; ((with_reducible refine (HDa.out _).mono ?_); rintro e w' ⟨rfl, rfl⟩))
      refine (HOx.out _ E2.out).mono ?_
      rintro e w9 ⟨rfl, hb⟩
      have B9 := Lib.hid (B2.out.trans (hb.mono B2.out.size)); clear hb
      go_wp2_with (go_at_call 15; refine (HDb.out _).mono ?_; rintro e w' ⟨rfl, rfl⟩)
      go_ret
      exact ⟨rfl, B9.out⟩
    · have HOx := Lib.hid (fun w he => wof_some (wkN a b c) a w x1 x2 x3 he)
      rw [x4, x5] at HOx
      have HDb := Lib.hid (fun w => wday_any a b (r + 1) w)
      rw [d1] at HDa
      clear x3 x4 x5 x6 d1
      rw [g1, g3] at HDb
      have g2' : (c == 7) = false := beq_eq_false_iff_ne.2 g2
      clear g1 g2 g3
      generalize wkN a b c = x at *
      go_enter Tryd.func6, Tryd.ntmps6
      go_wp2_with fail
      rw [← HX.out]
      refine HA.out.mono ?_
      rintro e w1 ⟨rfl, hb⟩
      have B1 := Lib.hid (B0.out.trans (hb.mono B0.out.size))
      have E1 := Lib.hid (E0.out.below hb); have T1 := Lib.hid (T0.out.below hb)
      obtain ⟨k0, k1, k2⟩ := three_cells HC.out HS.out hb
      clear hb
      go_wp2_with fail
      go_quiet (fail)
      have B2 := Lib.hid (B1.out.trans ⟨rfl, rfl, rfl, Nat.le_refl _, fun _ _ => rfl⟩ : Below w.heap.size w (w1.drewN nq))
      have E2 : RowKit.Hid (Ends (w1.drewN nq)) := Lib.hid E1.out
      have T2 : RowKit.Hid (Tab (w1.drewN nq)) := Lib.hid T1.out
      generalize w1.drewN nq = w2 at *
      clear k0 k1 k2
      go_wp2_with (go_at_call 8; ((with_reducible refine (HOn.out _).mono ?_); rintro e w' ⟨rfl, rfl⟩))
      go_wp2_with (go_at_call 15; ((with_reducible refine (HDa.out _).mono ?_); rintro e w' ⟨rfl, rfl⟩))
      refine (HOx.out _ E2.out).mono ?_
      rintro e w9 ⟨rfl, hb⟩
      have B9 := Lib.hid (B2.out.trans (hb.mono B2.out.size)); clear hb
      go_wp2_with (go_at_call 15; refine (HDb.out _).mono ?_; rintro e w' ⟨rfl, rfl⟩)
      go_ret
      exact ⟨rfl, B9.out⟩
  · obtain ⟨Y, hY, hy1, hy2⟩ := wk_some (n := n) (by omega) (by omega)
    have HOn := Lib.hid (fun w he => wof_some n Y w (by omega) (by omega) hY he)
    have HPn := Lib.hid (fun w he ht => wput_some n Y w (by omega) (by omega) hY ⟨hy1, hy2⟩ he ht)
    have HDn := Lib.hid (fun w => wday_any Y (wn n Y) (wd n) w)
    have HWn := Lib.hid (fun w => weekday_any n w)
    obtain ⟨i1, i2⟩ := wk_wdE hY ⟨hy1, hy2⟩ (by omega) (by omega)
    rw [i1, i2] at HDn
    obtain ⟨i3, i4, i5⟩ := paE_put hY ⟨hy1, hy2⟩ (by omega) (by omega)
    have HQn := Lib.hid (fun w => wparse_any ⟨(pwL Y (wn n Y) (wd n)).toArray⟩ w (by rw [Lib.size_mk]; omega))
    simp only [i3, i4] at HQn
    clear i1 i2 i3 i4 i5 hY g0
    generalize pwL Y (wn n Y) (wd n) = L at *
    generalize wn n Y = k at *
    generalize wd n = v at *
    rcases hb6 with d1 | ⟨d1, x1, x2, x3, x4, x5, x6, y1, y2, z1, z2, r, hr, r1, r2, g | ⟨g1, g2⟩ | ⟨g1, g2, g3⟩⟩
    · have d2 := ne_z d1
      clear d1
      generalize wkE a b c = E at *
      generalize wkN a b c = x at *
      go_enter Tryd.func6, Tryd.ntmps6
      go_wp2_with fail
      rw [← HX.out]
      refine HA.out.mono ?_
      rintro e w1 ⟨rfl, hb⟩
      have B1 := Lib.hid (B0.out.trans (hb.mono B0.out.size))
      have E1 := Lib.hid (E0.out.below hb); have T1 := Lib.hid (T0.out.below hb)
      obtain ⟨k0, k1, k2⟩ := three_cells HC.out HS.out hb
      clear hb
      go_wp2_with fail
      go_quiet (fail)
      have B2 := Lib.hid (B1.out.trans ⟨rfl, rfl, rfl, Nat.le_refl _, fun _ _ => rfl⟩ : Below w.heap.size w (w1.drewN nq))
      have E2 : RowKit.Hid (Ends (w1.drewN nq)) := Lib.hid E1.out
      have T2 : RowKit.Hid (Tab (w1.drewN nq)) := Lib.hid T1.out
      generalize w1.drewN nq = w2 at *
      clear k0 k1 k2
      go_wp2_with fail
      refine (HOn.out _ E2.out).mono ?_
      rintro e w3 ⟨rfl, hb⟩
      have B3 := Lib.hid (B2.out.trans (hb.mono B2.out.size))
      have E3 := Lib.hid (E2.out.below hb); have T3 := Lib.hid (T2.out.below hb); clear hb
      go_wp2_with fail
      refine (HPn.out _ E3.out T3.out).mono ?_
      rintro e w4 ⟨rfl, hb⟩
      have B4 := Lib.hid (B3.out.trans (hb.mono B3.out.size))
      have E4 := Lib.hid (E3.out.below hb); clear hb
      go_wp2_with (go_at_call 15; ((with_reducible refine (HDn.out _).mono ?_); rintro e w' ⟨rfl, rfl⟩))
      refine (HQn.out _).mono ?_
      rintro e w5 ⟨rfl, hb⟩
      have B5 := Lib.hid (B4.out.trans (hb.mono B4.out.size))
      have E5 := Lib.hid (E4.out.below hb); clear hb
      go_wp2_with (first | (go_at_call 24; refine (HWn.out _).mono ?_; rintro e w' ⟨rfl, rfl⟩) | (go_at_call 15; ((with_reducible refine (HDa.out _).mono ?_); rintro e w' ⟨rfl, rfl⟩)))
      go_ret
      exact ⟨rfl, B5.out⟩
    · have HOx := Lib.hid (fun w he => wof_some (wkN a b c) a w x1 x2 x3 he)
      rw [x4, x5] at HOx
      have HDb := Lib.hid (fun w => wday_any a b (r + 1) w)
      rw [d1] at HDa
      clear x3 x4 x5 x6 d1
      have g2 := ne_z g
      clear g
      generalize wkE a b (r + 1) = E at *
      generalize wkN a b (r + 1) = N at *
      generalize wkN a b c = x at *
      go_enter Tryd.func6, Tryd.ntmps6
      go_wp2_with fail
      rw [← HX.out]
      refine HA.out.mono ?_
      rintro e w1 ⟨rfl, hb⟩
      have B1 := Lib.hid (B0.out.trans (hb.mono B0.out.size))
      have E1 := Lib.hid (E0.out.below hb); have T1 := Lib.hid (T0.out.below hb)
      obtain ⟨k0, k1, k2⟩ := three_cells HC.out HS.out hb
      clear hb
      go_wp2_with fail
      go_quiet (fail)
      have B2 := Lib.hid (B1.out.trans ⟨rfl, rfl, rfl, Nat.le_refl _, fun _ _ => rfl⟩ : Below w.heap.size w (w1.drewN nq))
      have E2 : RowKit.Hid (Ends (w1.drewN nq)) := Lib.hid E1.out
      have T2 : RowKit.Hid (Tab (w1.drewN nq)) := Lib.hid T1.out
      generalize w1.drewN nq = w2 at *
      clear k0 k1 k2
      go_wp2_with fail
      refine (HOn.out _ E2.out).mono ?_
      rintro e w3 ⟨rfl, hb⟩
      have B3 := Lib.hid (B2.out.trans (hb.mono B2.out.size))
      have E3 := Lib.hid (E2.out.below hb); have T3 := Lib.hid (T2.out.below hb); clear hb
      go_wp2_with fail
      refine (HPn.out _ E3.out T3.out).mono ?_
      rintro e w4 ⟨rfl, hb⟩
      have B4 := Lib.hid (B3.out.trans (hb.mono B3.out.size))
      have E4 := Lib.hid (E3.out.below hb); clear hb
      go_wp2_with (go_at_call 15; ((with_reducible refine (HDn.out _).mono ?_); rintro e w' ⟨rfl, rfl⟩))
      refine (HQn.out _).mono ?_
      rintro e w5 ⟨rfl, hb⟩
      have B5 := Lib.hid (B4.out.trans (hb.mono B4.out.size))
      have E5 := Lib.hid (E4.out.below hb); clear hb
      go_wp2_with (first | (go_at_call 24; refine (HWn.out _).mono ?_; rintro e w' ⟨rfl, rfl⟩) | (go_at_call 15; ((with_reducible refine (HDa.out _).mono ?_); rintro e w' ⟨rfl, rfl⟩)))
      refine (HOx.out _ E5.out).mono ?_
      rintro e w9 ⟨rfl, hb⟩
      have B9 := Lib.hid (B5.out.trans (hb.mono B5.out.size)); clear hb
      go_wp2_with (go_at_call 15; refine (HDb.out _).mono ?_; rintro e w' ⟨rfl, rfl⟩)
      go_ret
      exact ⟨rfl, B9.out⟩
    · have HOx := Lib.hid (fun w he => wof_some (wkN a b c) a w x1 x2 x3 he)
      rw [x4, x5] at HOx
      have HDb := Lib.hid (fun w => wday_any a b (r + 1) w)
      rw [d1] at HDa
      clear x3 x4 x5 x6 d1
      rw [g1] at HDb
      have g2' : (c == 7) = true := beq_iff_eq.2 g2
      clear g1 g2
      generalize wkN a b (r + 1) = N at *
      generalize wkN a b c = x at *
      go_enter Tryd.func6, Tryd.ntmps6
      go_wp2_with fail
      rw [← HX.out]
      refine HA.out.mono ?_
      rintro e w1 ⟨rfl, hb⟩
      have B1 := Lib.hid (B0.out.trans (hb.mono B0.out.size))
      have E1 := Lib.hid (E0.out.below hb); have T1 := Lib.hid (T0.out.below hb)
      obtain ⟨k0, k1, k2⟩ := three_cells HC.out HS.out hb
      clear hb
      go_wp2_with fail
      go_quiet (fail)
      have B2 := Lib.hid (B1.out.trans ⟨rfl, rfl, rfl, Nat.le_refl _, fun _ _ => rfl⟩ : Below w.heap.size w (w1.drewN nq))
      have E2 : RowKit.Hid (Ends (w1.drewN nq)) := Lib.hid E1.out
      have T2 : RowKit.Hid (Tab (w1.drewN nq)) := Lib.hid T1.out
      generalize w1.drewN nq = w2 at *
      clear k0 k1 k2
      go_wp2_with fail
      refine (HOn.out _ E2.out).mono ?_
      rintro e w3 ⟨rfl, hb⟩
      have B3 := Lib.hid (B2.out.trans (hb.mono B2.out.size))
      have E3 := Lib.hid (E2.out.below hb); have T3 := Lib.hid (T2.out.below hb); clear hb
      go_wp2_with fail
      refine (HPn.out _ E3.out T3.out).mono ?_
      rintro e w4 ⟨rfl, hb⟩
      have B4 := Lib.hid (B3.out.trans (hb.mono B3.out.size))
      have E4 := Lib.hid (E3.out.below hb); clear hb
      go_wp2_with (go_at_call 15; ((with_reducible refine (HDn.out _).mono ?_); rintro e w' ⟨rfl, rfl⟩))
      refine (HQn.out _).mono ?_
      rintro e w5 ⟨rfl, hb⟩
      have B5 := Lib.hid (B4.out.trans (hb.mono B4.out.size))
      have E5 := Lib.hid (E4.out.below hb); clear hb
      go_wp2_with (first | (go_at_call 24; refine (HWn.out _).mono ?_; rintro e w' ⟨rfl, rfl⟩) | (go_at_call 15; ((with_reducible refine (HDa.out _).mono ?_); rintro e w' ⟨rfl, rfl⟩)))
      refine (HOx.out _ E5.out).mono ?_
      rintro e w9 ⟨rfl, hb⟩
      have B9 := Lib.hid (B5.out.trans (hb.mono B5.out.size)); clear hb
      go_wp2_with (go_at_call 15; refine (HDb.out _).mono ?_; rintro e w' ⟨rfl, rfl⟩)
      go_ret
      exact ⟨rfl, B9.out⟩
    · have HOx := Lib.hid (fun w he => wof_some (wkN a b c) a w x1 x2 x3 he)
      rw [x4, x5] at HOx
      have HDb := Lib.hid (fun w => wday_any a b (r + 1) w)
      rw [d1] at HDa
      clear x3 x4 x5 x6 d1
      rw [g1, g3] at HDb
      have g2' : (c == 7) = false := beq_eq_false_iff_ne.2 g2
      clear g1 g2 g3
      generalize wkN a b c = x at *
      go_enter Tryd.func6, Tryd.ntmps6
      go_wp2_with fail
      rw [← HX.out]
      refine HA.out.mono ?_
      rintro e w1 ⟨rfl, hb⟩
      have B1 := Lib.hid (B0.out.trans (hb.mono B0.out.size))
      have E1 := Lib.hid (E0.out.below hb); have T1 := Lib.hid (T0.out.below hb)
      obtain ⟨k0, k1, k2⟩ := three_cells HC.out HS.out hb
      clear hb
      go_wp2_with fail
      go_quiet (fail)
      have B2 := Lib.hid (B1.out.trans ⟨rfl, rfl, rfl, Nat.le_refl _, fun _ _ => rfl⟩ : Below w.heap.size w (w1.drewN nq))
      have E2 : RowKit.Hid (Ends (w1.drewN nq)) := Lib.hid E1.out
      have T2 : RowKit.Hid (Tab (w1.drewN nq)) := Lib.hid T1.out
      generalize w1.drewN nq = w2 at *
      clear k0 k1 k2
      go_wp2_with fail
      refine (HOn.out _ E2.out).mono ?_
      rintro e w3 ⟨rfl, hb⟩
      have B3 := Lib.hid (B2.out.trans (hb.mono B2.out.size))
      have E3 := Lib.hid (E2.out.below hb); have T3 := Lib.hid (T2.out.below hb); clear hb
      go_wp2_with fail
      refine (HPn.out _ E3.out T3.out).mono ?_
      rintro e w4 ⟨rfl, hb⟩
      have B4 := Lib.hid (B3.out.trans (hb.mono B3.out.size))
      have E4 := Lib.hid (E3.out.below hb); clear hb
      go_wp2_with (go_at_call 15; ((with_reducible refine (HDn.out _).mono ?_); rintro e w' ⟨rfl, rfl⟩))
      refine (HQn.out _).mono ?_
      rintro e w5 ⟨rfl, hb⟩
      have B5 := Lib.hid (B4.out.trans (hb.mono B4.out.size))
      have E5 := Lib.hid (E4.out.below hb); clear hb
      go_wp2_with (first | (go_at_call 24; refine (HWn.out _).mono ?_; rintro e w' ⟨rfl, rfl⟩) | (go_at_call 15; ((with_reducible refine (HDa.out _).mono ?_); rintro e w' ⟨rfl, rfl⟩)))
      refine (HOx.out _ E5.out).mono ?_
      rintro e w9 ⟨rfl, hb⟩
      have B9 := Lib.hid (B5.out.trans (hb.mono B5.out.size)); clear hb
      go_wp2_with (go_at_call 15; refine (HDb.out _).mono ?_; rintro e w' ⟨rfl, rfl⟩)
      go_ret
      exact ⟨rfl, B9.out⟩

end Go.Proofs.YtplibjgfdnbifaaDoor
