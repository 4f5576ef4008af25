/- The document's answer for labels: There, Moment, Check. Written by gen_labf.py. -/
import Derived.Test.YtiamggjebaabkaaDoorLabE
import Derived.Test.YtiamggjebaabkaaDoorDayG
namespace Go.Proofs.YtiamggjebaabkaaDoor
open Go.RowKit
set_option linter.unusedVariables false

theorem lrthere_any (n : Int) (w : World) : Calls Tryd.prog 65 #[.int .i64 n] w fun e w' => e = .returned (.bool (decide (dyok n))) ∧ w = w' := by
  have hF := rfirst_any w
  have hL := rlast_any w
  by_cases c : dyok n
  · rw [decide_eq_true c]
    obtain ⟨h, h'⟩ := c
    have h2 : n ≥ -4371587 := h
    go_enter Tryd.func65, Tryd.ntmps65
    go_wp2_with (first
      | (go_at_call 89; refine hF.mono ?_; rintro e w' ⟨rfl, rfl⟩)
      | (go_at_call 38; refine hL.mono ?_; rintro e w' ⟨rfl, rfl⟩))
    go_ret
    first | exact ⟨rfl, rfl⟩ | exact ⟨ret1_eq (bool_eq (by simp; omega)), rfl⟩
  · rw [decide_eq_false c]
    unfold dyok at c
    rcases (by omega : ¬ n ≥ -4371587 ∨ (n ≥ -4371587 ∧ ¬ n ≤ 2932896)) with h | ⟨h, h'⟩
    all_goals
      clear c
      go_enter Tryd.func65, Tryd.ntmps65
      go_wp2_with (first
        | (go_at_call 89; refine hF.mono ?_; rintro e w' ⟨rfl, rfl⟩)
        | (go_at_call 38; refine hL.mono ?_; rintro e w' ⟨rfl, rfl⟩))
      go_ret
      first | exact ⟨rfl, rfl⟩ | exact ⟨ret1_eq (bool_eq (by simp; omega)), rfl⟩

set_option maxHeartbeats 2000000 in
theorem lrmoment_any (l : Lb) (w : World) (c : ckd l.y l.m l.d = 0) (g : clok l.h l.i l.s) (o : ofok l.o) :
    Calls Tryd.prog 41 #[.agg l.cells] w fun e w' => e = .returned (.tuple #[.int .i64 (ldy l), .int .i64 (lmt l)]) ∧ Below w.heap.size w w' := by
  obtain ⟨W0, hW0⟩ : ∃ W0, W0 = w.alloc (.cells l.cells 35) := ⟨_, rfl⟩
  have B0 : Hid (Below w.heap.size w W0) := Lib.hid (by rw [hW0]; exact bel_new w _)
  have L0 : Lk 35 W0 w.heap.size l := by rw [hW0]; exact lk_new _ _ _
  have LH := Lib.hid L0
  obtain ⟨c0, c1, c2, -, -, -, -, -⟩ := L0.all
  have DD := ckd_dt c
  have HO := Lib.hid (rof_any l.y l.m l.d W0 DD.1 DD.2.1 DD.2.2.1 DD.2.2.2.1 (by have := ml_bd l.y DD.2.1 DD.2.2.1; have := DD.2.2.2.2.1; omega))
  rw [← DD.2.2.2.2.2] at HO
  have hr := DD.range
  unfold clok at g
  unfold ofok at o
  obtain ⟨h0, h1, i0, i1, s0, s1⟩ := g
  obtain ⟨o0, o1⟩ := o
  have M : Hid (ldy l = ofR l.y l.m l.d + (60 * l.h + l.i - l.o) / 1440 ∧ lmt l = (60 * l.h + l.i - l.o) % 1440) := Lib.hid ⟨rfl, rfl⟩
  clear L0 c DD s0 s1
  generalize ldy l = X at *
  generalize lmt l = Y at *
  generalize ofR l.y l.m l.d = r at *
  go_enter Tryd.func41, Tryd.ntmps41
  go_upto_region 1 with fail
  rw [← hW0]; clear hW0
  go_wp2_with fail
  refine HO.out.mono ?_
  rintro e w1 ⟨rfl, hb⟩
  obtain ⟨d0, d1, d2, d3, d4, d5, d6, d7⟩ := (LH.out.keep hb).all
  have B1 := Lib.hid (B0.out.trans (hb.mono B0.out.size))
  clear hb c0 c1 c2
  generalize l.h = h at *
  generalize l.i = i at *
  generalize l.o = o at *
  have x1 : IntKind.i64.wrap (h * 60) = h * 60 := IntWalk.i64_in _ (by omega)
  have x2 : IntKind.i64.wrap (h * 60 + i) = h * 60 + i := IntWalk.i64_in _ (by omega)
  have x3 : IntKind.i64.wrap (h * 60 + i - o) = h * 60 + i - o := IntWalk.i64_in _ (by omega)
  go_wp2
  clear x1 x2 x3 d0 d1 d2 d3 d4 d5 d6 d7
  go_loop [4, 5] (fun a b => ∃ u v : Int, a = .int .i64 u ∧ b = .int .i64 v ∧ -1439 ≤ v ∧ v ≤ 2878 ∧ -5000000 ≤ u ∧ u ≤ 5000000 ∧ Hid (1440 * u + v = 1440 * r + (60 * h + i - o) ∧ (0 ≤ v ∨ u = r))) (fun _ b => (1440 - intOf b).toNat)
  case atStart => exact ⟨r, h * 60 + i - o, rfl, rfl, by omega, by omega, by omega, by omega, Lib.hid ⟨by omega, Or.inr rfl⟩⟩
  case round =>
    obtain ⟨u, v, rfl, rfl, v0, v1, u0, u1, I⟩ := hrel
    by_cases hl : v < 0
    · have I2 : Hid (1440 * (u - 1) + (v + 1440) = 1440 * r + (60 * h + i - o) ∧ (0 ≤ v + 1440 ∨ u - 1 = r)) := Lib.hid ⟨by have := I.out; omega, by omega⟩
      have u2 : -5000000 ≤ u - 1 := by have := I.out; omega
      go_wp2
      go_round
      case rel => exact ⟨u - 1, v + 1440, rfl, rfl, by omega, by omega, by omega, by omega, I2⟩
      case measure => simp [intOf]; omega
    · have vv : 0 ≤ v := by omega
      clear v0
      go_wp2
      clear hl
      go_loop [4, 5] (fun a b => ∃ u v : Int, a = .int .i64 u ∧ b = .int .i64 v ∧ 0 ≤ v ∧ v ≤ 2878 ∧ -5000000 ≤ u ∧ u ≤ 5000000 ∧ Hid (1440 * u + v = 1440 * r + (60 * h + i - o))) (fun _ b => (intOf b).toNat)
      case atStart => exact ⟨u, v, rfl, rfl, by omega, by omega, by omega, by omega, Lib.hid I.out.1⟩
      case round =>
        clear I vv v1 u0 u1
        obtain ⟨u, v, rfl, rfl, v0, v1, u0, u1, I⟩ := hrel
        by_cases hg : v ≥ 1440
        · have I2 : Hid (1440 * (u + 1) + (v - 1440) = 1440 * r + (60 * h + i - o)) := Lib.hid (by have := I.out; omega)
          have u2 : u + 1 ≤ 5000000 := by have := I.out; omega
          go_wp2
          go_round
          case rel => exact ⟨u + 1, v - 1440, rfl, rfl, by omega, by omega, by omega, by omega, I2⟩
          case measure => simp [intOf]; omega
        · obtain ⟨m1, m2⟩ := M.out
          obtain rfl : X = u := by have := I.out; omega
          obtain rfl : Y = v := by have := I.out; omega
          clear M m1 m2 I
          go_wp2
          go_ret2
          exact ⟨rfl, B1.out⟩

set_option maxRecDepth 100000 in
set_option maxHeartbeats 4000000 in
theorem lrcheck_date (l : Lb) (w : World) (c : ckd l.y l.m l.d ≠ 0) :
    Calls Tryd.prog 40 #[.agg l.cells] w fun e w' => e = .returned (.int .i64 (ckd l.y l.m l.d)) ∧ Below w.heap.size w w' := by
  obtain ⟨W0, hW0⟩ : ∃ W0, W0 = w.alloc (.cells l.cells 35) := ⟨_, rfl⟩
  have B0 : Hid (Below w.heap.size w W0) := Lib.hid (by rw [hW0]; exact bel_new w _)
  have L0 : Lk 35 W0 w.heap.size l := by rw [hW0]; exact lk_new _ _ _
  obtain ⟨c0, c1, c2, -, -, -, -, -⟩ := L0.all
  have LH := Lib.hid L0
  have hK := rcheck_any l.y l.m l.d W0
  have HK := Lib.hid hK
  have c' := ne_z c
  clear L0 hK c
  generalize ckd l.y l.m l.d = k at *
  go_enter Tryd.func40, Tryd.ntmps40
  go_upto_region 1 with fail
  rw [← hW0]; clear hW0
  go_wp2_with fail
  refine HK.out.mono ?_
  rintro e w1 ⟨rfl, hb⟩
  have P1 := Lib.hid (LH.out.keep hb)
  have B1 := Lib.hid (B0.out.trans (hb.mono B0.out.size))
  clear hb c0 c1 c2
  obtain ⟨d0, d1, d2, d3, d4, d5, d6, d7⟩ := P1.out.all
  go_wp2_with fail
  go_ret
  exact ⟨rfl, B1.out⟩


end Go.Proofs.YtiamggjebaabkaaDoor
