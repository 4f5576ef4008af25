/- The document's answer for labels: Check of wrong numbers. Written by gen_labf.py. -/
import Derived.Test.YtiamggjebaabkaaDoorLabF
namespace Go.Proofs.YtiamggjebaabkaaDoor
open Go.RowKit
set_option linter.unusedVariables false

set_option maxRecDepth 100000 in
set_option maxHeartbeats 4000000 in
theorem lrcheck_r0 (l : Lb) (w : World) (c : ckd l.y l.m l.d = 0) (a0 : l.h < 0) :
    Calls Tryd.prog 40 #[.agg l.cells] w fun e w' => e = .returned (.int .i64 1) ∧ Below w.heap.size w w' := by
  obtain ⟨W0, hW0⟩ : ∃ W0, W0 = w.alloc (.cells l.cells 35) := ⟨_, rfl⟩
  have B0 : Hid (Below w.heap.size w W0) := Lib.hid (by rw [hW0]; exact bel_new w _)
  have L0 : Lk 35 W0 w.heap.size l := by rw [hW0]; exact lk_new _ _ _
  obtain ⟨c0, c1, c2, -, -, -, -, -⟩ := L0.all
  have LH := Lib.hid L0
  have hK := rcheck_any l.y l.m l.d W0
  rw [c] at hK
  have HK := Lib.hid hK
  have b0 : decide (l.h < 0) = true := decide_eq_true (by omega)
  clear L0 hK c a0
  go_enter Tryd.func40, Tryd.ntmps40
  go_upto_region 1 with fail
  rw [← hW0]; clear hW0
  go_wp2_with fail
  refine HK.out.mono ?_
  rintro e w1 ⟨rfl, hb⟩
  have P1 := Lib.hid (LH.out.keep hb)
  have B1 := Lib.hid (B0.out.trans (hb.mono B0.out.size))
  clear hb c0 c1 c2
  obtain ⟨d0, d1, d2, d3, d4, d5, d6, d7⟩ := P1.out.all
  generalize l.h = h at *
  generalize l.i = i at *
  generalize l.s = s at *
  generalize l.n = n at *
  generalize l.o = o at *
  go_wp2_with fail
  go_ret
  exact ⟨rfl, B1.out⟩

set_option maxRecDepth 100000 in
set_option maxHeartbeats 4000000 in
theorem lrcheck_r1 (l : Lb) (w : World) (c : ckd l.y l.m l.d = 0) (a0 : ¬ l.h < 0) (a1 : l.h > 23) :
    Calls Tryd.prog 40 #[.agg l.cells] w fun e w' => e = .returned (.int .i64 1) ∧ Below w.heap.size w w' := by
  obtain ⟨W0, hW0⟩ : ∃ W0, W0 = w.alloc (.cells l.cells 35) := ⟨_, rfl⟩
  have B0 : Hid (Below w.heap.size w W0) := Lib.hid (by rw [hW0]; exact bel_new w _)
  have L0 : Lk 35 W0 w.heap.size l := by rw [hW0]; exact lk_new _ _ _
  obtain ⟨c0, c1, c2, -, -, -, -, -⟩ := L0.all
  have LH := Lib.hid L0
  have hK := rcheck_any l.y l.m l.d W0
  rw [c] at hK
  have HK := Lib.hid hK
  have b0 : decide (l.h < 0) = false := decide_eq_false (by omega)
  have b1 : decide (23 < l.h) = true := decide_eq_true (by omega)
  clear L0 hK c a0 a1
  go_enter Tryd.func40, Tryd.ntmps40
  go_upto_region 1 with fail
  rw [← hW0]; clear hW0
  go_wp2_with fail
  refine HK.out.mono ?_
  rintro e w1 ⟨rfl, hb⟩
  have P1 := Lib.hid (LH.out.keep hb)
  have B1 := Lib.hid (B0.out.trans (hb.mono B0.out.size))
  clear hb c0 c1 c2
  obtain ⟨d0, d1, d2, d3, d4, d5, d6, d7⟩ := P1.out.all
  generalize l.h = h at *
  generalize l.i = i at *
  generalize l.s = s at *
  generalize l.n = n at *
  generalize l.o = o at *
  go_wp2_with fail
  go_ret
  exact ⟨rfl, B1.out⟩

set_option maxRecDepth 100000 in
set_option maxHeartbeats 4000000 in
theorem lrcheck_r2 (l : Lb) (w : World) (c : ckd l.y l.m l.d = 0) (a0 : ¬ l.h < 0) (a1 : ¬ l.h > 23) (a2 : l.i < 0) :
    Calls Tryd.prog 40 #[.agg l.cells] w fun e w' => e = .returned (.int .i64 1) ∧ Below w.heap.size w w' := by
  obtain ⟨W0, hW0⟩ : ∃ W0, W0 = w.alloc (.cells l.cells 35) := ⟨_, rfl⟩
  have B0 : Hid (Below w.heap.size w W0) := Lib.hid (by rw [hW0]; exact bel_new w _)
  have L0 : Lk 35 W0 w.heap.size l := by rw [hW0]; exact lk_new _ _ _
  obtain ⟨c0, c1, c2, -, -, -, -, -⟩ := L0.all
  have LH := Lib.hid L0
  have hK := rcheck_any l.y l.m l.d W0
  rw [c] at hK
  have HK := Lib.hid hK
  have b0 : decide (l.h < 0) = false := decide_eq_false (by omega)
  have b1 : decide (23 < l.h) = false := decide_eq_false (by omega)
  have b2 : decide (l.i < 0) = true := decide_eq_true (by omega)
  clear L0 hK c a0 a1 a2
  go_enter Tryd.func40, Tryd.ntmps40
  go_upto_region 1 with fail
  rw [← hW0]; clear hW0
  go_wp2_with fail
  refine HK.out.mono ?_
  rintro e w1 ⟨rfl, hb⟩
  have P1 := Lib.hid (LH.out.keep hb)
  have B1 := Lib.hid (B0.out.trans (hb.mono B0.out.size))
  clear hb c0 c1 c2
  obtain ⟨d0, d1, d2, d3, d4, d5, d6, d7⟩ := P1.out.all
  generalize l.h = h at *
  generalize l.i = i at *
  generalize l.s = s at *
  generalize l.n = n at *
  generalize l.o = o at *
  go_wp2_with fail
  go_ret
  exact ⟨rfl, B1.out⟩

set_option maxRecDepth 100000 in
set_option maxHeartbeats 4000000 in
theorem lrcheck_r3 (l : Lb) (w : World) (c : ckd l.y l.m l.d = 0) (a0 : ¬ l.h < 0) (a1 : ¬ l.h > 23) (a2 : ¬ l.i < 0) (a3 : l.i > 59) :
    Calls Tryd.prog 40 #[.agg l.cells] w fun e w' => e = .returned (.int .i64 1) ∧ Below w.heap.size w w' := by
  obtain ⟨W0, hW0⟩ : ∃ W0, W0 = w.alloc (.cells l.cells 35) := ⟨_, rfl⟩
  have B0 : Hid (Below w.heap.size w W0) := Lib.hid (by rw [hW0]; exact bel_new w _)
  have L0 : Lk 35 W0 w.heap.size l := by rw [hW0]; exact lk_new _ _ _
  obtain ⟨c0, c1, c2, -, -, -, -, -⟩ := L0.all
  have LH := Lib.hid L0
  have hK := rcheck_any l.y l.m l.d W0
  rw [c] at hK
  have HK := Lib.hid hK
  have b0 : decide (l.h < 0) = false := decide_eq_false (by omega)
  have b1 : decide (23 < l.h) = false := decide_eq_false (by omega)
  have b2 : decide (l.i < 0) = false := decide_eq_false (by omega)
  have b3 : decide (59 < l.i) = true := decide_eq_true (by omega)
  clear L0 hK c a0 a1 a2 a3
  go_enter Tryd.func40, Tryd.ntmps40
  go_upto_region 1 with fail
  rw [← hW0]; clear hW0
  go_wp2_with fail
  refine HK.out.mono ?_
  rintro e w1 ⟨rfl, hb⟩
  have P1 := Lib.hid (LH.out.keep hb)
  have B1 := Lib.hid (B0.out.trans (hb.mono B0.out.size))
  clear hb c0 c1 c2
  obtain ⟨d0, d1, d2, d3, d4, d5, d6, d7⟩ := P1.out.all
  generalize l.h = h at *
  generalize l.i = i at *
  generalize l.s = s at *
  generalize l.n = n at *
  generalize l.o = o at *
  go_wp2_with fail
  go_ret
  exact ⟨rfl, B1.out⟩

set_option maxRecDepth 100000 in
set_option maxHeartbeats 4000000 in
theorem lrcheck_r4 (l : Lb) (w : World) (c : ckd l.y l.m l.d = 0) (a0 : ¬ l.h < 0) (a1 : ¬ l.h > 23) (a2 : ¬ l.i < 0) (a3 : ¬ l.i > 59) (a4 : l.s < 0) :
    Calls Tryd.prog 40 #[.agg l.cells] w fun e w' => e = .returned (.int .i64 1) ∧ Below w.heap.size w w' := by
  obtain ⟨W0, hW0⟩ : ∃ W0, W0 = w.alloc (.cells l.cells 35) := ⟨_, rfl⟩
  have B0 : Hid (Below w.heap.size w W0) := Lib.hid (by rw [hW0]; exact bel_new w _)
  have L0 : Lk 35 W0 w.heap.size l := by rw [hW0]; exact lk_new _ _ _
  obtain ⟨c0, c1, c2, -, -, -, -, -⟩ := L0.all
  have LH := Lib.hid L0
  have hK := rcheck_any l.y l.m l.d W0
  rw [c] at hK
  have HK := Lib.hid hK
  have b0 : decide (l.h < 0) = false := decide_eq_false (by omega)
  have b1 : decide (23 < l.h) = false := decide_eq_false (by omega)
  have b2 : decide (l.i < 0) = false := decide_eq_false (by omega)
  have b3 : decide (59 < l.i) = false := decide_eq_false (by omega)
  have b4 : decide (l.s < 0) = true := decide_eq_true (by omega)
  clear L0 hK c a0 a1 a2 a3 a4
  go_enter Tryd.func40, Tryd.ntmps40
  go_upto_region 1 with fail
  rw [← hW0]; clear hW0
  go_wp2_with fail
  refine HK.out.mono ?_
  rintro e w1 ⟨rfl, hb⟩
  have P1 := Lib.hid (LH.out.keep hb)
  have B1 := Lib.hid (B0.out.trans (hb.mono B0.out.size))
  clear hb c0 c1 c2
  obtain ⟨d0, d1, d2, d3, d4, d5, d6, d7⟩ := P1.out.all
  generalize l.h = h at *
  generalize l.i = i at *
  generalize l.s = s at *
  generalize l.n = n at *
  generalize l.o = o at *
  go_wp2_with fail
  go_ret
  exact ⟨rfl, B1.out⟩

set_option maxRecDepth 100000 in
set_option maxHeartbeats 4000000 in
theorem lrcheck_r5 (l : Lb) (w : World) (c : ckd l.y l.m l.d = 0) (a0 : ¬ l.h < 0) (a1 : ¬ l.h > 23) (a2 : ¬ l.i < 0) (a3 : ¬ l.i > 59) (a4 : ¬ l.s < 0) (a5 : l.s > 60) :
    Calls Tryd.prog 40 #[.agg l.cells] w fun e w' => e = .returned (.int .i64 1) ∧ Below w.heap.size w w' := by
  obtain ⟨W0, hW0⟩ : ∃ W0, W0 = w.alloc (.cells l.cells 35) := ⟨_, rfl⟩
  have B0 : Hid (Below w.heap.size w W0) := Lib.hid (by rw [hW0]; exact bel_new w _)
  have L0 : Lk 35 W0 w.heap.size l := by rw [hW0]; exact lk_new _ _ _
  obtain ⟨c0, c1, c2, -, -, -, -, -⟩ := L0.all
  have LH := Lib.hid L0
  have hK := rcheck_any l.y l.m l.d W0
  rw [c] at hK
  have HK := Lib.hid hK
  have b0 : decide (l.h < 0) = false := decide_eq_false (by omega)
  have b1 : decide (23 < l.h) = false := decide_eq_false (by omega)
  have b2 : decide (l.i < 0) = false := decide_eq_false (by omega)
  have b3 : decide (59 < l.i) = false := decide_eq_false (by omega)
  have b4 : decide (l.s < 0) = false := decide_eq_false (by omega)
  have b5 : decide (60 < l.s) = true := decide_eq_true (by omega)
  clear L0 hK c a0 a1 a2 a3 a4 a5
  go_enter Tryd.func40, Tryd.ntmps40
  go_upto_region 1 with fail
  rw [← hW0]; clear hW0
  go_wp2_with fail
  refine HK.out.mono ?_
  rintro e w1 ⟨rfl, hb⟩
  have P1 := Lib.hid (LH.out.keep hb)
  have B1 := Lib.hid (B0.out.trans (hb.mono B0.out.size))
  clear hb c0 c1 c2
  obtain ⟨d0, d1, d2, d3, d4, d5, d6, d7⟩ := P1.out.all
  generalize l.h = h at *
  generalize l.i = i at *
  generalize l.s = s at *
  generalize l.n = n at *
  generalize l.o = o at *
  go_wp2_with fail
  go_ret
  exact ⟨rfl, B1.out⟩

set_option maxRecDepth 100000 in
set_option maxHeartbeats 4000000 in
theorem lrcheck_r6 (l : Lb) (w : World) (c : ckd l.y l.m l.d = 0) (a0 : ¬ l.h < 0) (a1 : ¬ l.h > 23) (a2 : ¬ l.i < 0) (a3 : ¬ l.i > 59) (a4 : ¬ l.s < 0) (a5 : ¬ l.s > 60) (a6 : l.n < 0) :
    Calls Tryd.prog 40 #[.agg l.cells] w fun e w' => e = .returned (.int .i64 1) ∧ Below w.heap.size w w' := by
  obtain ⟨W0, hW0⟩ : ∃ W0, W0 = w.alloc (.cells l.cells 35) := ⟨_, rfl⟩
  have B0 : Hid (Below w.heap.size w W0) := Lib.hid (by rw [hW0]; exact bel_new w _)
  have L0 : Lk 35 W0 w.heap.size l := by rw [hW0]; exact lk_new _ _ _
  obtain ⟨c0, c1, c2, -, -, -, -, -⟩ := L0.all
  have LH := Lib.hid L0
  have hK := rcheck_any l.y l.m l.d W0
  rw [c] at hK
  have HK := Lib.hid hK
  have b0 : decide (l.h < 0) = false := decide_eq_false (by omega)
  have b1 : decide (23 < l.h) = false := decide_eq_false (by omega)
  have b2 : decide (l.i < 0) = false := decide_eq_false (by omega)
  have b3 : decide (59 < l.i) = false := decide_eq_false (by omega)
  have b4 : decide (l.s < 0) = false := decide_eq_false (by omega)
  have b5 : decide (60 < l.s) = false := decide_eq_false (by omega)
  have b6 : decide (l.n < 0) = true := decide_eq_true (by omega)
  clear L0 hK c a0 a1 a2 a3 a4 a5 a6
  go_enter Tryd.func40, Tryd.ntmps40
  go_upto_region 1 with fail
  rw [← hW0]; clear hW0
  go_wp2_with fail
  refine HK.out.mono ?_
  rintro e w1 ⟨rfl, hb⟩
  have P1 := Lib.hid (LH.out.keep hb)
  have B1 := Lib.hid (B0.out.trans (hb.mono B0.out.size))
  clear hb c0 c1 c2
  obtain ⟨d0, d1, d2, d3, d4, d5, d6, d7⟩ := P1.out.all
  generalize l.h = h at *
  generalize l.i = i at *
  generalize l.s = s at *
  generalize l.n = n at *
  generalize l.o = o at *
  go_wp2_with fail
  go_ret
  exact ⟨rfl, B1.out⟩

set_option maxRecDepth 100000 in
set_option maxHeartbeats 4000000 in
theorem lrcheck_r7 (l : Lb) (w : World) (c : ckd l.y l.m l.d = 0) (a0 : ¬ l.h < 0) (a1 : ¬ l.h > 23) (a2 : ¬ l.i < 0) (a3 : ¬ l.i > 59) (a4 : ¬ l.s < 0) (a5 : ¬ l.s > 60) (a6 : ¬ l.n < 0) (a7 : l.n > 999999999) :
    Calls Tryd.prog 40 #[.agg l.cells] w fun e w' => e = .returned (.int .i64 1) ∧ Below w.heap.size w w' := by
  obtain ⟨W0, hW0⟩ : ∃ W0, W0 = w.alloc (.cells l.cells 35) := ⟨_, rfl⟩
  have B0 : Hid (Below w.heap.size w W0) := Lib.hid (by rw [hW0]; exact bel_new w _)
  have L0 : Lk 35 W0 w.heap.size l := by rw [hW0]; exact lk_new _ _ _
  obtain ⟨c0, c1, c2, -, -, -, -, -⟩ := L0.all
  have LH := Lib.hid L0
  have hK := rcheck_any l.y l.m l.d W0
  rw [c] at hK
  have HK := Lib.hid hK
  have b0 : decide (l.h < 0) = false := decide_eq_false (by omega)
  have b1 : decide (23 < l.h) = false := decide_eq_false (by omega)
  have b2 : decide (l.i < 0) = false := decide_eq_false (by omega)
  have b3 : decide (59 < l.i) = false := decide_eq_false (by omega)
  have b4 : decide (l.s < 0) = false := decide_eq_false (by omega)
  have b5 : decide (60 < l.s) = false := decide_eq_false (by omega)
  have b6 : decide (l.n < 0) = false := decide_eq_false (by omega)
  have b7 : decide (999999999 < l.n) = true := decide_eq_true (by omega)
  clear L0 hK c a0 a1 a2 a3 a4 a5 a6 a7
  go_enter Tryd.func40, Tryd.ntmps40
  go_upto_region 1 with fail
  rw [← hW0]; clear hW0
  go_wp2_with fail
  refine HK.out.mono ?_
  rintro e w1 ⟨rfl, hb⟩
  have P1 := Lib.hid (LH.out.keep hb)
  have B1 := Lib.hid (B0.out.trans (hb.mono B0.out.size))
  clear hb c0 c1 c2
  obtain ⟨d0, d1, d2, d3, d4, d5, d6, d7⟩ := P1.out.all
  generalize l.h = h at *
  generalize l.i = i at *
  generalize l.s = s at *
  generalize l.n = n at *
  generalize l.o = o at *
  go_wp2_with fail
  go_ret
  exact ⟨rfl, B1.out⟩

set_option maxRecDepth 100000 in
set_option maxHeartbeats 4000000 in
theorem lrcheck_r8 (l : Lb) (w : World) (c : ckd l.y l.m l.d = 0) (a0 : ¬ l.h < 0) (a1 : ¬ l.h > 23) (a2 : ¬ l.i < 0) (a3 : ¬ l.i > 59) (a4 : ¬ l.s < 0) (a5 : ¬ l.s > 60) (a6 : ¬ l.n < 0) (a7 : ¬ l.n > 999999999) (a8 : l.o < -1439) :
    Calls Tryd.prog 40 #[.agg l.cells] w fun e w' => e = .returned (.int .i64 1) ∧ Below w.heap.size w w' := by
  obtain ⟨W0, hW0⟩ : ∃ W0, W0 = w.alloc (.cells l.cells 35) := ⟨_, rfl⟩
  have B0 : Hid (Below w.heap.size w W0) := Lib.hid (by rw [hW0]; exact bel_new w _)
  have L0 : Lk 35 W0 w.heap.size l := by rw [hW0]; exact lk_new _ _ _
  obtain ⟨c0, c1, c2, -, -, -, -, -⟩ := L0.all
  have LH := Lib.hid L0
  have hK := rcheck_any l.y l.m l.d W0
  rw [c] at hK
  have HK := Lib.hid hK
  have b0 : decide (l.h < 0) = false := decide_eq_false (by omega)
  have b1 : decide (23 < l.h) = false := decide_eq_false (by omega)
  have b2 : decide (l.i < 0) = false := decide_eq_false (by omega)
  have b3 : decide (59 < l.i) = false := decide_eq_false (by omega)
  have b4 : decide (l.s < 0) = false := decide_eq_false (by omega)
  have b5 : decide (60 < l.s) = false := decide_eq_false (by omega)
  have b6 : decide (l.n < 0) = false := decide_eq_false (by omega)
  have b7 : decide (999999999 < l.n) = false := decide_eq_false (by omega)
  have b8 : decide (l.o < -1439) = true := decide_eq_true (by omega)
  clear L0 hK c a0 a1 a2 a3 a4 a5 a6 a7 a8
  go_enter Tryd.func40, Tryd.ntmps40
  go_upto_region 1 with fail
  rw [← hW0]; clear hW0
  go_wp2_with fail
  refine HK.out.mono ?_
  rintro e w1 ⟨rfl, hb⟩
  have P1 := Lib.hid (LH.out.keep hb)
  have B1 := Lib.hid (B0.out.trans (hb.mono B0.out.size))
  clear hb c0 c1 c2
  obtain ⟨d0, d1, d2, d3, d4, d5, d6, d7⟩ := P1.out.all
  generalize l.h = h at *
  generalize l.i = i at *
  generalize l.s = s at *
  generalize l.n = n at *
  generalize l.o = o at *
  go_wp2_with fail
  go_ret
  exact ⟨rfl, B1.out⟩

set_option maxRecDepth 100000 in
set_option maxHeartbeats 4000000 in
theorem lrcheck_r9 (l : Lb) (w : World) (c : ckd l.y l.m l.d = 0) (a0 : ¬ l.h < 0) (a1 : ¬ l.h > 23) (a2 : ¬ l.i < 0) (a3 : ¬ l.i > 59) (a4 : ¬ l.s < 0) (a5 : ¬ l.s > 60) (a6 : ¬ l.n < 0) (a7 : ¬ l.n > 999999999) (a8 : ¬ l.o < -1439) (a9 : l.o > 1439) :
    Calls Tryd.prog 40 #[.agg l.cells] w fun e w' => e = .returned (.int .i64 1) ∧ Below w.heap.size w w' := by
  obtain ⟨W0, hW0⟩ : ∃ W0, W0 = w.alloc (.cells l.cells 35) := ⟨_, rfl⟩
  have B0 : Hid (Below w.heap.size w W0) := Lib.hid (by rw [hW0]; exact bel_new w _)
  have L0 : Lk 35 W0 w.heap.size l := by rw [hW0]; exact lk_new _ _ _
  obtain ⟨c0, c1, c2, -, -, -, -, -⟩ := L0.all
  have LH := Lib.hid L0
  have hK := rcheck_any l.y l.m l.d W0
  rw [c] at hK
  have HK := Lib.hid hK
  have b0 : decide (l.h < 0) = false := decide_eq_false (by omega)
  have b1 : decide (23 < l.h) = false := decide_eq_false (by omega)
  have b2 : decide (l.i < 0) = false := decide_eq_false (by omega)
  have b3 : decide (59 < l.i) = false := decide_eq_false (by omega)
  have b4 : decide (l.s < 0) = false := decide_eq_false (by omega)
  have b5 : decide (60 < l.s) = false := decide_eq_false (by omega)
  have b6 : decide (l.n < 0) = false := decide_eq_false (by omega)
  have b7 : decide (999999999 < l.n) = false := decide_eq_false (by omega)
  have b8 : decide (l.o < -1439) = false := decide_eq_false (by omega)
  have b9 : decide (1439 < l.o) = true := decide_eq_true (by omega)
  clear L0 hK c a0 a1 a2 a3 a4 a5 a6 a7 a8 a9
  go_enter Tryd.func40, Tryd.ntmps40
  go_upto_region 1 with fail
  rw [← hW0]; clear hW0
  go_wp2_with fail
  refine HK.out.mono ?_
  rintro e w1 ⟨rfl, hb⟩
  have P1 := Lib.hid (LH.out.keep hb)
  have B1 := Lib.hid (B0.out.trans (hb.mono B0.out.size))
  clear hb c0 c1 c2
  obtain ⟨d0, d1, d2, d3, d4, d5, d6, d7⟩ := P1.out.all
  generalize l.h = h at *
  generalize l.i = i at *
  generalize l.s = s at *
  generalize l.n = n at *
  generalize l.o = o at *
  go_wp2_with fail
  go_ret
  exact ⟨rfl, B1.out⟩

theorem lrcheck_range (l : Lb) (w : World) (c : ckd l.y l.m l.d = 0) (g : ¬ (clok l.h l.i l.s ∧ nnok l.n ∧ ofok l.o)) :
    Calls Tryd.prog 40 #[.agg l.cells] w fun e w' => e = .returned (.int .i64 1) ∧ Below w.heap.size w w' := by
  by_cases a0 : l.h < 0
  · exact lrcheck_r0 l w c a0
  by_cases a1 : l.h > 23
  · exact lrcheck_r1 l w c a0 a1
  by_cases a2 : l.i < 0
  · exact lrcheck_r2 l w c a0 a1 a2
  by_cases a3 : l.i > 59
  · exact lrcheck_r3 l w c a0 a1 a2 a3
  by_cases a4 : l.s < 0
  · exact lrcheck_r4 l w c a0 a1 a2 a3 a4
  by_cases a5 : l.s > 60
  · exact lrcheck_r5 l w c a0 a1 a2 a3 a4 a5
  by_cases a6 : l.n < 0
  · exact lrcheck_r6 l w c a0 a1 a2 a3 a4 a5 a6
  by_cases a7 : l.n > 999999999
  · exact lrcheck_r7 l w c a0 a1 a2 a3 a4 a5 a6 a7
  by_cases a8 : l.o < -1439
  · exact lrcheck_r8 l w c a0 a1 a2 a3 a4 a5 a6 a7 a8
  by_cases a9 : l.o > 1439
  · exact lrcheck_r9 l w c a0 a1 a2 a3 a4 a5 a6 a7 a8 a9
  exact absurd ⟨⟨by omega, by omega, by omega, by omega, by omega, by omega⟩, ⟨by omega, by omega⟩, ⟨by omega, by omega⟩⟩ g

end Go.Proofs.YtiamggjebaabkaaDoor
