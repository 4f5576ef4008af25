/- Package rule: past, pastWeekly, Day, At. -/
import Derived.Test.YtlngnllcjfbicaaDoorRulD
import Derived.Test.YtlngnllcjfbicaaDoorDayB
namespace Go.Proofs.YtlngnllcjfbicaaDoor
open Go.RowKit
set_option linter.unusedVariables false
set_option linter.unusedSimpArgs false

theorem near16 {z : Int} (h : -100000000 ≤ z ∧ z ≤ 100000000) : IntKind.i64.wrap z = z := IntWalk.i64_in _ (by omega)
theorem below_dn16 {B : Nat} {a w : World} (h : Below B a w) (n : Nat) : Below B a (w.drewN n) := ⟨h.os, h.tape, h.output, h.size, h.block⟩
theorem tmod_nn {x : Int} (h : 0 ≤ x) : x.tmod 7 = x % 7 := Int.tmod_eq_emod_of_nonneg h

set_option maxHeartbeats 2000000 in
theorem pastweekly_any (r : Ru) (y : Int) (w : World) (he : Ends w) (hr : ruE r = 0) (hk : r.K = 3) (hy : yrP y) :
    Calls Tryd.prog 56 #[.agg r.cells, .int .i64 y] w fun e w' => e = .returned (.int .i64 (em y (r.M - 1) + ahN y r)) ∧ Below w.heap.size w w' := by
  have k3 := ruE_kinds hr
  have m1 : 1 ≤ r.M ∧ r.M ≤ 12 := by omega
  have w1 : 1 ≤ r.W ∧ r.W ≤ 5 := by omega
  have d1 : 0 ≤ r.D ∧ r.D ≤ 6 := by omega
  have lb := like_bd y
  have iy := isy_like y
  obtain ⟨W0, hW0⟩ : ∃ W0, W0 = w.alloc (.cells r.cells 23) := ⟨_, rfl⟩
  have B0 : Hid (Below w.heap.size w W0) := Lib.hid (by rw [hW0]; exact bel16 w _)
  have L0 : Rk W0 w.heap.size r := by rw [hW0]; exact rk_new _ _
  obtain ⟨c0, c1, c2, c3, c4⟩ := L0.all
  have R0 := Lib.hid L0
  have E0 := he.below B0.out
  have hS := dstart_any (2000 + y.tmod 400) W0
  have hO := dof_any (2000 + y.tmod 400) r.M 1 W0 E0
  have hM := month_any (2000 + y.tmod 400) r.M W0 E0
  obtain ⟨o1, o2⟩ := of_first iy m1.1 m1.2
  have s1 : cks (2000 + y.tmod 400) = 0 := if_neg (by omega)
  have s2 : stR (2000 + y.tmod 400) = st (2000 + y.tmod 400) := if_pos s1
  have n1 : ckm (2000 + y.tmod 400) r.M = 0 := by unfold ckm; rw [if_pos iy, if_neg (by omega)]
  have n2 : mlR (2000 + y.tmod 400) r.M = ml y r.M := by unfold mlR; rw [if_pos n1, ml_like]
  rw [s1, s2] at hS
  rw [o1, o2] at hO
  rw [n1, n2] at hM
  have hV2 : ∀ w, Calls Tryd.prog 27 #[.int .i64 (fm (2000 + y.tmod 400) r.M)] w fun e w' => e = .returned (.int .i64 (wd (fm y r.M))) ∧ w' = w := by
    intro w; rw [← wd_like y r.M]; exact (weekday_any _ w).mono fun _ _ h => ⟨h.1, h.2.symm⟩
  have sb := st_in iy
  have yb := yd_bd (2000 + y.tmod 400)
  have mb := em_bd y (m := r.M - 1) (by omega) (by omega)
  have vb := wd_bd (fm y r.M)
  have ll := ml_bd y m1.1 m1.2
  have fe : fm (2000 + y.tmod 400) r.M = st (2000 + y.tmod 400) + em y (r.M - 1) := by unfold fm; rw [em_like]
  have ea : a0 y r.M r.D = (r.D - wd (fm y r.M) + 7) % 7 := rfl
  have ev0 : ahN y r = if ml y r.M ≤ a0 y r.M r.D + 7 * (r.W - 1) then a0 y r.M r.D + 7 * (r.W - 1) - 7 else a0 y r.M r.D + 7 * (r.W - 1) := rfl
  rw [ea] at ev0
  generalize ahN y r = R at *
  generalize fm (2000 + y.tmod 400) r.M = F at *
  generalize wd (fm y r.M) = v at *
  generalize st (2000 + y.tmod 400) = S at *
  generalize em y (r.M - 1) = E at *
  generalize ml y r.M = L at *
  generalize yd (2000 + y.tmod 400) = Y at *
  clear ea o1 o2 s1 s2 n1 n2 iy L0 hr k3 hk E0
  obtain ⟨K, M, W9, D, T⟩ := r
  simp only at c0 c1 c2 c3 c4 m1 w1 d1 ev0 hO hM
  have r1 := near16 (z := D - v) (by omega)
  have r2 := near16 (z := D - v + 7) (by omega)
  have r3 : (D - v + 7).tmod 7 = (D - v + 7) % 7 := tmod_nn (by omega)
  obtain ⟨A, hA⟩ : ∃ A, A = (D - v + 7) % 7 := ⟨_, rfl⟩
  have a1 : 0 ≤ A ∧ A ≤ 6 := by omega
  rw [← hA] at r3 ev0
  have r4 := near16 (z := W9 - 1) (by omega)
  have r5 := near16 (z := 7 * (W9 - 1)) (by omega)
  have q1 : IntKind.i64.wrap ((D - v + 7) % 7) = A := by rw [← hA]; exact near16 (by omega)
  have HA := Lib.hid hA
  obtain ⟨Z, hZ⟩ : ∃ Z, Z = A + 7 * (W9 - 1) := ⟨_, rfl⟩
  have z1 : 0 ≤ Z ∧ Z ≤ 34 := by omega
  rw [← hZ] at ev0
  have r6 : IntKind.i64.wrap (A + 7 * (W9 - 1)) = Z := by rw [hZ]; exact near16 (by omega)
  have fb : -5000000 ≤ F ∧ F ≤ 5000000 := by omega
  have sb2 : -5000000 ≤ S ∧ S ≤ 5000000 := by omega
  generalize ht : y.tmod 400 = t at *
  have p1 := near16 (z := 2000 + t) (by omega)
  clear hA
  have HV2 := Lib.hid hV2
  by_cases g : L ≤ Z
  · have t1 : decide (L ≤ Z) = true := le_yes g
    rw [if_pos g] at ev0
    have HF : Hid (F - S + (Z - 7) = E + R) := Lib.hid (by omega)
    clear g ev0 fe hZ a1 sb yb ll hV2 vb m1 w1 d1 mb
    go_enter Tryd.func56, Tryd.ntmps56
    go_upto_region 1 with fail
    rw [← hW0]; clear hW0
    go_upto_region 5 with (first
      | (go_at_call 29; refine hS.mono ?_; rintro e w' ⟨rfl, rfl⟩)
      | (go_at_call 70; refine hO.mono ?_; rintro e w' ⟨rfl, rfl⟩)
      | (go_at_call 26; refine hM.mono ?_; rintro e w' ⟨rfl, rfl⟩))
    go_quiet ((go_at_call 27; exact Calls.quiet_of_same (HV2.out _)))
    go_wp2_with fail
    go_ret
    exact ⟨ret1_eq (int_eq HF.out), below_dn16 B0.out _⟩
  · have t1 : decide (L ≤ Z) = false := le_no g
    rw [if_neg g] at ev0
    have HF : Hid (F - S + Z = E + R) := Lib.hid (by omega)
    clear g ev0 fe hZ a1 sb yb ll hV2 vb m1 w1 d1 mb
    go_enter Tryd.func56, Tryd.ntmps56
    go_upto_region 1 with fail
    rw [← hW0]; clear hW0
    go_upto_region 5 with (first
      | (go_at_call 29; refine hS.mono ?_; rintro e w' ⟨rfl, rfl⟩)
      | (go_at_call 70; refine hO.mono ?_; rintro e w' ⟨rfl, rfl⟩)
      | (go_at_call 26; refine hM.mono ?_; rintro e w' ⟨rfl, rfl⟩))
    go_quiet ((go_at_call 27; exact Calls.quiet_of_same (HV2.out _)))
    go_wp2_with fail
    go_ret
    exact ⟨ret1_eq (int_eq HF.out), below_dn16 B0.out _⟩

/-! ### how many days of a year are over -/
set_option maxHeartbeats 2000000 in
theorem past_any (r : Ru) (y : Int) (w : World) (he : Ends w) (hr : ruE r = 0) (hy : yrP y) :
    Calls Tryd.prog 30 #[.agg r.cells, .int .i64 y] w fun e w' => e = .returned (.int .i64 (psN y r)) ∧ Below w.heap.size w w' := by
  obtain ⟨W0, hW0⟩ : ∃ W0, W0 = w.alloc (.cells r.cells 23) := ⟨_, rfl⟩
  have B0 : Hid (Below w.heap.size w W0) := Lib.hid (by rw [hW0]; exact bel16 w _)
  have L0 : Rk W0 w.heap.size r := by rw [hW0]; exact rk_new _ _
  obtain ⟨c0, c1, c2, c3, c4⟩ := L0.all
  have hk := ruE_kinds hr
  have hP := fun k => pastweekly_any r y W0 (he.below B0.out) hr k hy
  have hL := fun w => leap_any y w
  have HL := Lib.hid hL
  have hn : psN y r = if r.K = 3 then em y (r.M - 1) + ahN y r else if r.K = 1 then (if r.D < 60 ∨ lp y = false then r.D - 1 else r.D) else r.D := rfl
  clear L0 hr hL
  generalize em y (r.M - 1) + ahN y r = P at *
  generalize psN y r = N at *
  obtain ⟨K, M, W9, D, T⟩ := r
  simp only at c0 c1 c2 c3 c4 hk hP hn
  rcases (by omega : K = 3 ∨ K = 1 ∨ K = 2) with k | k | k
  · rw [if_pos k] at hn
    have HP := Lib.hid (hP k)
    have t1 := eq_yes k
    have t2 : (K == 1) = false := eq_no (by omega)
    rw [hn]
    clear k hk hP hn HL
    go_enter Tryd.func30, Tryd.ntmps30
    go_upto_region 1 with fail
    rw [← hW0]; clear hW0
    go_wp2_with (go_at_call 56; refine HP.out.mono ?_; rintro e w1 ⟨rfl, hb⟩; have B0 := Lib.hid (B0.out.trans (hb.mono B0.out.size)); clear hb)
    go_ret
    exact ⟨rfl, B0.out⟩
  · have t1 : (K == 3) = false := eq_no (by omega)
    have t2 : (K == 1) = true := eq_yes k
    have d1 : 1 ≤ D ∧ D ≤ 365 := by omega
    rw [if_neg (by omega), if_pos k] at hn
    clear k hk hP
    by_cases a : D < 60
    · rw [if_pos (Or.inl a)] at hn
      rw [hn]
      have t3 := lt_yes a
      clear a hn HL
      go_enter Tryd.func30, Tryd.ntmps30
      go_upto_region 1 with fail
      rw [← hW0]; clear hW0
      go_wp2_with fail
      go_ret
      exact ⟨rfl, B0.out⟩
    · have t3 := lt_no a
      cases b : lp y with
      | false =>
        rw [b] at HL
        rw [if_pos (Or.inr b)] at hn
        rw [hn]
        clear a hn b
        go_enter Tryd.func30, Tryd.ntmps30
        go_upto_region 1 with fail
        rw [← hW0]; clear hW0
        go_wp2_with (go_at_call 57; refine (HL.out _).mono ?_; rintro e w' ⟨rfl, rfl⟩)
        go_ret
        exact ⟨rfl, B0.out⟩
      | true =>
        rw [b] at HL
        rw [if_neg (by rw [b]; simp; omega)] at hn
        rw [hn]
        clear a hn b
        go_enter Tryd.func30, Tryd.ntmps30
        go_upto_region 1 with fail
        rw [← hW0]; clear hW0
        go_wp2_with (go_at_call 57; refine (HL.out _).mono ?_; rintro e w' ⟨rfl, rfl⟩)
        go_ret
        exact ⟨rfl, B0.out⟩
  · have t1 : (K == 3) = false := eq_no (by omega)
    have t2 : (K == 1) = false := eq_no (by omega)
    have d1 : 0 ≤ D ∧ D ≤ 365 := by omega
    rw [if_neg (by omega), if_neg (by omega)] at hn
    rw [hn]
    clear k hk hP hn HL
    go_enter Tryd.func30, Tryd.ntmps30
    go_upto_region 1 with fail
    rw [← hW0]; clear hW0
    go_wp2_with fail
    go_ret
    exact ⟨rfl, B0.out⟩

/-! ### Day, At -/
theorem yr_wi (y : Int) : wiB y (-10001) 10001 = decide (yrP y) := by
  unfold yrP
  cases h : wiB y (-10001) 10001 with
  | false => exact (decide_eq_false (wiB_no.1 h)).symm
  | true => exact (decide_eq_true (wiB_yes.1 h)).symm
set_option maxHeartbeats 2000000 in
theorem day16_any (r : Ru) (y : Int) (w : World) (he : Ends w) :
    Calls Tryd.prog 9 #[.agg r.cells, .int .i64 y] w fun e w' => e = .returned (.tuple #[.int .i64 (duN r y), ev (duE r y)]) ∧ Below w.heap.size w w' := by
  have q0 := fun op t W x k => guard_ev op t W x k
  have q2 := fun W k => neq_ev W k
  obtain ⟨W0, hW0⟩ : ∃ W0, W0 = w.alloc (.cells r.cells 23) := ⟨_, rfl⟩
  have B0 : Hid (Below w.heap.size w W0) := Lib.hid (by rw [hW0]; exact bel16 w _)
  have L0 : Rk W0 w.heap.size r := by rw [hW0]; exact rk_new _ _
  obtain ⟨c0, c1, c2, c3, c4⟩ := L0.all
  have R0 := Lib.hid L0
  have E0 := Lib.hid (he.below B0.out)
  have HC := Lib.hid (fun w => check_any r w)
  have HW := Lib.hid (fun n a b w => wi_any n a b w)
  clear L0 he
  rcases duE_cases r y with ⟨a, d⟩ | ⟨a, b, d⟩ | ⟨a, b, d⟩
  · have e1 : duN r y = 0 := if_neg (by omega)
    rw [e1, d]
    have t1 := ne_yes a
    generalize ruE r = E at *
    clear a d e1
    go_enter Tryd.func9, Tryd.ntmps9
    go_upto_region 1 with fail
    rw [← hW0]; clear hW0
    go_wp2_with (go_at_call 14; refine (HC.out _).mono ?_; rintro e w1 ⟨rfl, hb⟩; obtain ⟨c0, c1, c2, c3, c4⟩ := (R0.out.keep hb).all; have R0 := Lib.hid (R0.out.keep hb); have E0 := Lib.hid (E0.out.below hb); have B0 := Lib.hid (B0.out.trans (hb.mono B0.out.size)); clear hb)
    go_ret2
    exact ⟨rfl, B0.out⟩
  · have e1 : duN r y = 0 := if_neg (by omega)
    rw [e1, d, ev_pos (k := 13) (by decide)]
    have b1 := yr_wi y
    rw [decide_eq_false b] at b1
    rw [a] at HC
    clear a b d e1
    go_enter Tryd.func9, Tryd.ntmps9
    go_upto_region 1 with fail
    rw [← hW0]; clear hW0
    go_wp2_with (first
      | (go_at_call 14; refine (HC.out _).mono ?_; rintro e w1 ⟨rfl, hb⟩; obtain ⟨c0, c1, c2, c3, c4⟩ := (R0.out.keep hb).all; have R0 := Lib.hid (R0.out.keep hb); have E0 := Lib.hid (E0.out.below hb); have B0 := Lib.hid (B0.out.trans (hb.mono B0.out.size)); clear hb)
      | (go_at_call 28; refine (HW.out _ _ _ _).mono ?_; rintro e w' ⟨rfl, rfl⟩))
    go_ret2
    exact ⟨rfl, B0.out⟩
  · have e1 : duN r y = st y + psN y r := if_pos d
    rw [e1, d]
    have b1 := yr_wi y
    rw [decide_eq_true b] at b1
    have HP := Lib.hid (fun w he => past_any r y w he a b)
    have pb := ps_bd (y := y) a
    unfold yrP at b
    have sb := st_bd (y := y) (by omega) (by omega)
    have HS := Lib.hid (fun w => dstart_any y w)
    have s1 : cks y = 0 := if_neg (by omega)
    have s2 : stR y = st y := if_pos s1
    rw [s1, s2] at HS
    rw [a] at HC
    clear a b d e1 s1 s2
    generalize st y = S at *
    generalize psN y r = P at *
    go_enter Tryd.func9, Tryd.ntmps9
    go_upto_region 1 with fail
    rw [← hW0]; clear hW0
    go_wp2_with (first
      | (go_at_call 14; refine (HC.out _).mono ?_; rintro e w1 ⟨rfl, hb⟩; obtain ⟨c0, c1, c2, c3, c4⟩ := (R0.out.keep hb).all; have R0 := Lib.hid (R0.out.keep hb); have E0 := Lib.hid (E0.out.below hb); have B0 := Lib.hid (B0.out.trans (hb.mono B0.out.size)); clear hb)
      | (go_at_call 28; refine (HW.out _ _ _ _).mono ?_; rintro e w' ⟨rfl, rfl⟩)
      | (go_at_call 29; refine (HS.out _).mono ?_; rintro e w' ⟨rfl, rfl⟩)
      | (go_at_call 30; refine (HP.out _ E0.out).mono ?_; rintro e w1 ⟨rfl, hb⟩; have B0 := Lib.hid (B0.out.trans (hb.mono B0.out.size)); clear hb))
    go_ret2
    exact ⟨rfl, B0.out⟩
set_option maxHeartbeats 2000000 in
theorem at16_any (r : Ru) (y : Int) (w : World) (he : Ends w) :
    Calls Tryd.prog 10 #[.agg r.cells, .int .i64 y] w fun e w' => e = .returned (.tuple #[.int .i64 (duS r y), ev (duE r y)]) ∧ Below w.heap.size w w' := by
  have q0 := fun op t W x k => guard_ev op t W x k
  have q2 := fun W k => neq_ev W k
  obtain ⟨W0, hW0⟩ : ∃ W0, W0 = w.alloc (.cells r.cells 23) := ⟨_, rfl⟩
  have B0 : Hid (Below w.heap.size w W0) := Lib.hid (by rw [hW0]; exact bel16 w _)
  have L0 : Rk W0 w.heap.size r := by rw [hW0]; exact rk_new _ _
  obtain ⟨c0, c1, c2, c3, c4⟩ := L0.all
  have R0 := Lib.hid L0
  have E0 := he.below B0.out
  have HD := Lib.hid (day16_any r y W0 E0)
  clear L0 he E0
  by_cases d : duE r y = 0
  · have e1 : duN r y = st y + psN y r := if_pos d
    have e2 : duS r y = 86400 * (st y + psN y r) + r.T := if_pos d
    rw [e1, d] at HD
    rw [e2, d]
    have hc : ruE r = 0 ∧ yrP y := by
      rcases duE_cases r y with ⟨a, b⟩ | ⟨a, b, c⟩ | ⟨a, b, c⟩
      · omega
      · omega
      · exact ⟨a, b⟩
    have pb := ps_bd (y := y) hc.1
    have tm := (ruE_zero hc.1).2.2
    have yb := hc.2
    unfold yrP at yb
    unfold tmP at tm
    have sb := st_bd (y := y) (by omega) (by omega)
    obtain ⟨n, hn⟩ : ∃ n, n = st y + psN y r := ⟨_, rfl⟩
    have nb : -21000000 ≤ n ∧ n ≤ 21000000 := by omega
    rw [← hn] at HD ⊢
    obtain ⟨K, M, W9, D, T⟩ := r
    simp only at c0 c1 c2 c3 c4 tm
    clear hc e1 e2 d pb yb sb hn
    go_enter Tryd.func10, Tryd.ntmps10
    go_upto_region 1 with fail
    rw [← hW0]; clear hW0
    go_wp2_with (go_at_call 9; refine HD.out.mono ?_; rintro e w1 ⟨rfl, hb⟩; obtain ⟨c0, c1, c2, c3, c4⟩ := (R0.out.keep hb).all; have R0 := Lib.hid (R0.out.keep hb); have B0 := Lib.hid (B0.out.trans (hb.mono B0.out.size)); clear hb)
    go_ret2
    exact ⟨rfl, B0.out⟩
  · have e1 : duN r y = 0 := if_neg d
    have e2 : duS r y = 0 := if_neg d
    rw [e1] at HD
    rw [e2]
    have t1 := ne_yes d
    generalize duE r y = E at *
    clear d e1 e2
    go_enter Tryd.func10, Tryd.ntmps10
    go_upto_region 1 with fail
    rw [← hW0]; clear hW0
    go_wp2_with (go_at_call 9; refine HD.out.mono ?_; rintro e w1 ⟨rfl, hb⟩; obtain ⟨c0, c1, c2, c3, c4⟩ := (R0.out.keep hb).all; have R0 := Lib.hid (R0.out.keep hb); have B0 := Lib.hid (B0.out.trans (hb.mono B0.out.size)); clear hb)
    go_ret2
    exact ⟨rfl, B0.out⟩
end Go.Proofs.YtlngnllcjfbicaaDoor

