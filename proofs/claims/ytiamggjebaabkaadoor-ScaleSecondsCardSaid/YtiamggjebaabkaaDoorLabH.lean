/- The document's answer for labels: Check, Split. Written by gen_labf.py. -/
import Derived.Test.YtiamggjebaabkaaDoorLabF
import Derived.Test.YtiamggjebaabkaaDoorLabG
namespace Go.Proofs.YtiamggjebaabkaaDoor
open Go.RowKit
set_option linter.unusedVariables false

set_option maxRecDepth 100000 in
set_option maxHeartbeats 4000000 in
theorem lrcheck_far (l : Lb) (w : World) (c : ckd l.y l.m l.d = 0) (g : clok l.h l.i l.s) (gn : nnok l.n) (go : ofok l.o) (k : ¬ dyok (ldy l)) :
    Calls Tryd.prog 40 #[.agg l.cells] w fun e w' => e = .returned (.int .i64 13) ∧ Below w.heap.size w w' := by
  obtain ⟨W0, hW0⟩ : ∃ W0, W0 = w.alloc (.cells l.cells 35) := ⟨_, rfl⟩
  have B0 : Hid (Below w.heap.size w W0) := Lib.hid (by rw [hW0]; exact bel_new w _)
  have L0 : Lk 35 W0 w.heap.size l := by rw [hW0]; exact lk_new _ _ _
  obtain ⟨c0, c1, c2, -, -, -, -, -⟩ := L0.all
  have LH := Lib.hid L0
  have hK := rcheck_any l.y l.m l.d W0
  rw [c] at hK
  have HK := Lib.hid hK
  have HM := Lib.hid (fun w => lrmoment_any l w c g go)
  have hT := fun w => lrthere_any (ldy l) w
  rw [decide_eq_false k] at hT
  have HT := Lib.hid hT
  clear hT k
  unfold clok at g
  unfold nnok at gn
  unfold ofok at go
  have a0 : decide (l.h < 0) = false := decide_eq_false (by omega)
  have a1 : decide (23 < l.h) = false := decide_eq_false (by omega)
  have a2 : decide (l.i < 0) = false := decide_eq_false (by omega)
  have a3 : decide (59 < l.i) = false := decide_eq_false (by omega)
  have a4 : decide (l.s < 0) = false := decide_eq_false (by omega)
  have a5 : decide (60 < l.s) = false := decide_eq_false (by omega)
  have a6 : decide (l.n < 0) = false := decide_eq_false (by omega)
  have a7 : decide (999999999 < l.n) = false := decide_eq_false (by omega)
  have a8 : decide (l.o < -1439) = false := decide_eq_false (by omega)
  have a9 : decide (1439 < l.o) = false := decide_eq_false (by omega)
  clear L0 hK c g gn go
  generalize ldy l = D at *
  generalize lmt l = M at *
  go_enter Tryd.func40, Tryd.ntmps40
  go_upto_region 1 with fail
  rw [← hW0]; clear hW0
  go_wp2_with fail
  refine HK.out.mono ?_
  rintro e w1 ⟨rfl, hb⟩
  have P1 := Lib.hid (LH.out.keep hb)
  have B1 := Lib.hid (B0.out.trans (hb.mono B0.out.size))
  clear hb c0 c1 c2
  obtain ⟨d0, d1, d2, d3, d4, d5, d6, d7⟩ := P1.out.all
  go_wp2_with fail
  refine (HM.out _).mono ?_
  rintro e w2 ⟨rfl, hb⟩
  have B2 := Lib.hid (B1.out.trans (hb.mono B1.out.size))
  have P2 := P1.out.keep hb
  clear hb d0 d1 d2 d3 d4 d5 d6 d7
  obtain ⟨d0, d1, d2, d3, d4, d5, d6, d7⟩ := P2.all
  clear P2
  go_wp2_with (go_at_call 65; refine (HT.out _).mono ?_; rintro e w' ⟨rfl, rfl⟩)
  go_ret
  exact ⟨rfl, B2.out⟩

set_option maxRecDepth 100000 in
set_option maxHeartbeats 4000000 in
theorem lrcheck_leap (l : Lb) (w : World) (c : ckd l.y l.m l.d = 0) (g : clok l.h l.i l.s) (gn : nnok l.n) (go : ofok l.o) (k : dyok (ldy l)) (s6 : l.s = 60) (m9 : lmt l ≠ 1439) :
    Calls Tryd.prog 40 #[.agg l.cells] w fun e w' => e = .returned (.int .i64 12) ∧ Below w.heap.size w w' := by
  obtain ⟨W0, hW0⟩ : ∃ W0, W0 = w.alloc (.cells l.cells 35) := ⟨_, rfl⟩
  have B0 : Hid (Below w.heap.size w W0) := Lib.hid (by rw [hW0]; exact bel_new w _)
  have L0 : Lk 35 W0 w.heap.size l := by rw [hW0]; exact lk_new _ _ _
  obtain ⟨c0, c1, c2, -, -, -, -, -⟩ := L0.all
  have LH := Lib.hid L0
  have hK := rcheck_any l.y l.m l.d W0
  rw [c] at hK
  have HK := Lib.hid hK
  have HM := Lib.hid (fun w => lrmoment_any l w c g go)
  have hT := fun w => lrthere_any (ldy l) w
  rw [decide_eq_true k] at hT
  have HT := Lib.hid hT
  clear hT k
  have b1 : (l.s == 60) = true := by simpa using s6
  have b2 : (lmt l != 1439) = true := by simpa using m9
  unfold clok at g
  unfold nnok at gn
  unfold ofok at go
  have a0 : decide (l.h < 0) = false := decide_eq_false (by omega)
  have a1 : decide (23 < l.h) = false := decide_eq_false (by omega)
  have a2 : decide (l.i < 0) = false := decide_eq_false (by omega)
  have a3 : decide (59 < l.i) = false := decide_eq_false (by omega)
  have a4 : decide (l.s < 0) = false := decide_eq_false (by omega)
  have a5 : decide (60 < l.s) = false := decide_eq_false (by omega)
  have a6 : decide (l.n < 0) = false := decide_eq_false (by omega)
  have a7 : decide (999999999 < l.n) = false := decide_eq_false (by omega)
  have a8 : decide (l.o < -1439) = false := decide_eq_false (by omega)
  have a9 : decide (1439 < l.o) = false := decide_eq_false (by omega)
  clear L0 hK c g gn go
  generalize ldy l = D at *
  generalize lmt l = M at *
  clear s6 m9
  go_enter Tryd.func40, Tryd.ntmps40
  go_upto_region 1 with fail
  rw [← hW0]; clear hW0
  go_wp2_with fail
  refine HK.out.mono ?_
  rintro e w1 ⟨rfl, hb⟩
  have P1 := Lib.hid (LH.out.keep hb)
  have B1 := Lib.hid (B0.out.trans (hb.mono B0.out.size))
  clear hb c0 c1 c2
  obtain ⟨d0, d1, d2, d3, d4, d5, d6, d7⟩ := P1.out.all
  go_wp2_with fail
  refine (HM.out _).mono ?_
  rintro e w2 ⟨rfl, hb⟩
  have B2 := Lib.hid (B1.out.trans (hb.mono B1.out.size))
  have P2 := P1.out.keep hb
  clear hb d0 d1 d2 d3 d4 d5 d6 d7
  obtain ⟨d0, d1, d2, d3, d4, d5, d6, d7⟩ := P2.all
  clear P2
  go_wp2_with (go_at_call 65; refine (HT.out _).mono ?_; rintro e w' ⟨rfl, rfl⟩)
  go_ret
  exact ⟨rfl, B2.out⟩

set_option maxRecDepth 100000 in
set_option maxHeartbeats 4000000 in
theorem lrcheck_ok (l : Lb) (w : World) (c : ckd l.y l.m l.d = 0) (g : clok l.h l.i l.s) (gn : nnok l.n) (go : ofok l.o) (k : dyok (ldy l)) (s6 : l.s = 60 → lmt l = 1439) :
    Calls Tryd.prog 40 #[.agg l.cells] w fun e w' => e = .returned (.int .i64 0) ∧ Below w.heap.size w w' := by
  obtain ⟨W0, hW0⟩ : ∃ W0, W0 = w.alloc (.cells l.cells 35) := ⟨_, rfl⟩
  have B0 : Hid (Below w.heap.size w W0) := Lib.hid (by rw [hW0]; exact bel_new w _)
  have L0 : Lk 35 W0 w.heap.size l := by rw [hW0]; exact lk_new _ _ _
  obtain ⟨c0, c1, c2, -, -, -, -, -⟩ := L0.all
  have LH := Lib.hid L0
  have hK := rcheck_any l.y l.m l.d W0
  rw [c] at hK
  have HK := Lib.hid hK
  have HM := Lib.hid (fun w => lrmoment_any l w c g go)
  have hT := fun w => lrthere_any (ldy l) w
  rw [decide_eq_true k] at hT
  have HT := Lib.hid hT
  clear hT k
  unfold clok at g
  unfold nnok at gn
  unfold ofok at go
  have a0 : decide (l.h < 0) = false := decide_eq_false (by omega)
  have a1 : decide (23 < l.h) = false := decide_eq_false (by omega)
  have a2 : decide (l.i < 0) = false := decide_eq_false (by omega)
  have a3 : decide (59 < l.i) = false := decide_eq_false (by omega)
  have a4 : decide (l.s < 0) = false := decide_eq_false (by omega)
  have a5 : decide (60 < l.s) = false := decide_eq_false (by omega)
  have a6 : decide (l.n < 0) = false := decide_eq_false (by omega)
  have a7 : decide (999999999 < l.n) = false := decide_eq_false (by omega)
  have a8 : decide (l.o < -1439) = false := decide_eq_false (by omega)
  have a9 : decide (1439 < l.o) = false := decide_eq_false (by omega)
  clear L0 hK c g gn go
  generalize ldy l = D at *
  generalize lmt l = M at *
  by_cases s7 : l.s = 60
  · have b1 : (l.s == 60) = true := by simpa using s7
    have b2 : (M != 1439) = false := by simpa using s6 s7
    clear s6 s7
    go_enter Tryd.func40, Tryd.ntmps40
    go_upto_region 1 with fail
    rw [← hW0]; clear hW0
    go_wp2_with fail
    refine HK.out.mono ?_
    rintro e w1 ⟨rfl, hb⟩
    have P1 := Lib.hid (LH.out.keep hb)
    have B1 := Lib.hid (B0.out.trans (hb.mono B0.out.size))
    clear hb c0 c1 c2
    obtain ⟨d0, d1, d2, d3, d4, d5, d6, d7⟩ := P1.out.all
    go_wp2_with fail
    refine (HM.out _).mono ?_
    rintro e w2 ⟨rfl, hb⟩
    have B2 := Lib.hid (B1.out.trans (hb.mono B1.out.size))
    have P2 := P1.out.keep hb
    clear hb d0 d1 d2 d3 d4 d5 d6 d7
    obtain ⟨d0, d1, d2, d3, d4, d5, d6, d7⟩ := P2.all
    clear P2
    go_wp2_with (go_at_call 65; refine (HT.out _).mono ?_; rintro e w' ⟨rfl, rfl⟩)
    go_ret
    exact ⟨rfl, B2.out⟩
  · have b1 : (l.s == 60) = false := by simpa using s7
    clear s6 s7
    go_enter Tryd.func40, Tryd.ntmps40
    go_upto_region 1 with fail
    rw [← hW0]; clear hW0
    go_wp2_with fail
    refine HK.out.mono ?_
    rintro e w1 ⟨rfl, hb⟩
    have P1 := Lib.hid (LH.out.keep hb)
    have B1 := Lib.hid (B0.out.trans (hb.mono B0.out.size))
    clear hb c0 c1 c2
    obtain ⟨d0, d1, d2, d3, d4, d5, d6, d7⟩ := P1.out.all
    go_wp2_with fail
    refine (HM.out _).mono ?_
    rintro e w2 ⟨rfl, hb⟩
    have B2 := Lib.hid (B1.out.trans (hb.mono B1.out.size))
    have P2 := P1.out.keep hb
    clear hb d0 d1 d2 d3 d4 d5 d6 d7
    obtain ⟨d0, d1, d2, d3, d4, d5, d6, d7⟩ := P2.all
    clear P2
    go_wp2_with (go_at_call 65; refine (HT.out _).mono ?_; rintro e w' ⟨rfl, rfl⟩)
    go_ret
    exact ⟨rfl, B2.out⟩

theorem lrcheck_any (l : Lb) (w : World) :
    Calls Tryd.prog 40 #[.agg l.cells] w fun e w' => e = .returned (.int .i64 (lbE l)) ∧ Below w.heap.size w w' := by
  by_cases c : ckd l.y l.m l.d = 0
  · by_cases g : clok l.h l.i l.s ∧ nnok l.n ∧ ofok l.o
    · by_cases k : dyok (ldy l)
      · by_cases s : l.s = 60 ∧ lmt l ≠ 1439
        · rw [show lbE l = 12 by unfold lbE; rw [if_pos c, if_pos g, if_pos k, if_pos s]]
          exact lrcheck_leap l w c g.1 g.2.1 g.2.2 k s.1 s.2
        · rw [show lbE l = 0 by unfold lbE; rw [if_pos c, if_pos g, if_pos k, if_neg s]]
          exact lrcheck_ok l w c g.1 g.2.1 g.2.2 k (fun h => by omega)
      · rw [show lbE l = 13 by unfold lbE; rw [if_pos c, if_pos g, if_neg k]]
        exact lrcheck_far l w c g.1 g.2.1 g.2.2 k
    · rw [show lbE l = 1 by unfold lbE; rw [if_pos c, if_neg g]]
      exact lrcheck_range l w c g
  · rw [show lbE l = ckd l.y l.m l.d from if_neg c]
    exact lrcheck_date l w c

set_option maxHeartbeats 2000000 in
theorem lrsplit_any (l : Lb) (w : World) :
    Calls Tryd.prog 16 #[.agg l.cells] w fun e w' => e = .returned (.tuple #[.int .i64 (lbN l), .int .i64 (lbT l), .int .i64 (lbE l)]) ∧ Below w.heap.size w w' := by
  obtain ⟨W0, hW0⟩ : ∃ W0, W0 = w.alloc (.cells l.cells 35) := ⟨_, rfl⟩
  have B0 : Hid (Below w.heap.size w W0) := Lib.hid (by rw [hW0]; exact bel_new w _)
  have L0 : Lk 35 W0 w.heap.size l := by rw [hW0]; exact lk_new _ _ _
  obtain ⟨c0, c1, c2, c3, c4, c5, c6, c7⟩ := L0.all
  have LH := Lib.hid L0
  have hK := lrcheck_any l W0
  clear L0
  by_cases h : lbE l = 0
  · obtain ⟨c, g, gn, go, k, s⟩ := lbE_zero h
    have HM := Lib.hid (fun w => lrmoment_any l w c g go)
    rw [show lbN l = ldy l from if_pos h, show lbT l = 60 * lmt l + l.s from if_pos h, h]
    rw [h] at hK
    have HK := Lib.hid hK
    have m0 : 0 ≤ lmt l ∧ lmt l ≤ 1439 := by unfold lmt; omega
    unfold clok at g
    obtain ⟨-, -, -, -, s0, s1⟩ := g
    clear h hK c gn go k s
    generalize ldy l = D at *
    generalize lmt l = M at *
    rw [show 60 * M + l.s = M * 60 + l.s by omega]
    have w1 : IntKind.i64.wrap (M * 60) = M * 60 := IntWalk.i64_in _ (by omega)
    have w2 : IntKind.i64.wrap (M * 60 + l.s) = M * 60 + l.s := IntWalk.i64_in _ (by omega)
    go_enter Tryd.func16, Tryd.ntmps16
    go_upto_region 1 with fail
    rw [← hW0]; clear hW0
    go_wp2_with fail
    refine HK.out.mono ?_
    rintro e w3 ⟨rfl, hb⟩
    have P1 := Lib.hid (LH.out.keep hb)
    have B1 := Lib.hid (B0.out.trans (hb.mono B0.out.size))
    clear hb c0 c1 c2 c3 c4 c5 c6 c7
    obtain ⟨c0, c1, c2, c3, c4, c5, c6, c7⟩ := P1.out.all
    go_wp2_with fail
    refine (HM.out _).mono ?_
    rintro e w4 ⟨rfl, hb⟩
    have P2 := P1.out.keep hb
    have B2 := Lib.hid (B1.out.trans (hb.mono B1.out.size))
    clear hb c0 c1 c2 c3 c4 c5 c6 c7
    obtain ⟨c0, c1, c2, c3, c4, c5, c6, c7⟩ := P2.all
    clear P2
    go_wp2_with fail
    go_quiet (fail)
    go_wp2
    go_ret3
    exact ⟨rfl, B2.out.trans (drewN_below _ _ _)⟩
  · rw [show lbN l = 0 from if_neg h, show lbT l = 0 from if_neg h]
    have h' := ne_z h
    have HK := Lib.hid hK
    clear h hK
    generalize lbE l = E at *
    go_enter Tryd.func16, Tryd.ntmps16
    go_upto_region 1 with fail
    rw [← hW0]; clear hW0
    go_wp2_with fail
    refine HK.out.mono ?_
    rintro e w1 ⟨rfl, hb⟩
    have B1 := Lib.hid (B0.out.trans (hb.mono B0.out.size))
    clear hb c0 c1 c2 c3 c4 c5 c6 c7
    go_wp2_with fail
    go_ret3
    exact ⟨rfl, B1.out⟩

end Go.Proofs.YtiamggjebaabkaaDoor
