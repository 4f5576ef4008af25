/- The document's answer for labels: At, Compare. -/
import Derived.Test.YtlnijcfgkhbfhaaDoorLabH
import Derived.Test.YtlnijcfgkhbfhaaDoorLabL
namespace Go.Proofs.YtlnijcfgkhbfhaaDoor
open Go.RowKit
set_option linter.unusedVariables false

set_option maxRecDepth 100000 in
set_option maxHeartbeats 2000000 in
theorem lrat_any (l : Lb) (o : Int) (w : World) {L : Lb} (hL : At l o L) :
    Calls Tryd.prog 17 #[.agg l.cells, .int .i64 o] w fun e w' => e = .returned (.tuple #[.agg L.cells, .int .i64 (atE l o)]) ∧ Below w.heap.size w w' := by
  obtain ⟨W0, hW0⟩ : ∃ W0, W0 = (w.alloc (.cells l.cells 31)).alloc (.cells #[.int .i64 0, .int .i64 0, .int .i64 0, .int .i64 0, .int .i64 0, .int .i64 0, .int .i64 0, .int .i64 0] 31) := ⟨_, rfl⟩
  obtain ⟨p0, z0, b0⟩ := two_lk 31 31 w l
  rw [show (w.alloc (.cells l.cells 31)).alloc (.cells lb0.cells 31) = W0 from hW0.symm] at p0 z0 b0
  obtain ⟨c0, c1, c2, c3, c4, c5, c6, c7⟩ := p0.all
  have P0 := Lib.hid p0; have Z0 := Lib.hid z0; have B0 := Lib.hid b0
  have HS := Lib.hid (lrsplit_any l W0)
  clear p0 z0 b0
  rcases hL with ⟨h, hM⟩ | ⟨h, rfl⟩
  · rw [show atE l o = mkE (lbN l) (lbT l) l.n o from if_pos h]
    rw [h] at HS
    have HO := Lib.hid (fun w => lrof_any (lbN l) (lbT l) l.n o w hM)
    clear hM h
    obtain ⟨y, m, d, h, i, s, n, oo⟩ := L
    change Hid (∀ w, Calls _ _ _ _ fun e w' => e = .returned (.tuple #[.agg #[.int .i64 y, .int .i64 m, .int .i64 d, .int .i64 h, .int .i64 i, .int .i64 s, .int .i64 n, .int .i64 oo], _]) ∧ _) at HO
    show Calls _ _ _ _ fun e w' => e = .returned (.tuple #[.agg #[.int .i64 y, .int .i64 m, .int .i64 d, .int .i64 h, .int .i64 i, .int .i64 s, .int .i64 n, .int .i64 oo], _]) ∧ _
    generalize mkE (lbN l) (lbT l) l.n o = E at *
    generalize lbN l = N at *
    generalize lbT l = T at *
    go_enter Tryd.func17, Tryd.ntmps17
    go_upto_region 1 with fail
    rw [← hW0]; clear hW0
    go_wp2_with fail
    refine HS.out.mono ?_
    rintro e w1 ⟨rfl, hb⟩
    have P1 := Lib.hid (P0.out.keep hb); have Z1 := Lib.hid (Z0.out.keep hb)
    have B1 := Lib.hid (B0.out.trans (hb.mono B0.out.size))
    clear hb c0 c1 c2 c3 c4 c5 c6 c7
    obtain ⟨c0, c1, c2, c3, c4, c5, c6, c7⟩ := P1.out.all
    go_wp2_with fail
    refine (HO.out _).mono ?_
    rintro e w2 ⟨rfl, hb⟩
    have Z2 := Lib.hid (Z1.out.keep hb)
    have B2 := Lib.hid (B1.out.trans (hb.mono B1.out.size))
    clear hb c0 c1 c2 c3 c4 c5 c6 c7
    obtain ⟨f0, f1, f2, f3, f4, f5, f6, f7⟩ := Z2.out.frees
    obtain ⟨c0, c1, c2, c3, c4, c5, c6, c7⟩ := Z2.out.all
    go_wp2_with fail
    have hP := put8_lk Z2.out y m d h i s n oo
    have hB := put8_below B2.out (Nat.le_succ _) y m d h i s n oo
    obtain ⟨W9, hW9⟩ : ∃ W9, W9 = put8 w2 (w.heap.size + 1) y m d h i s n oo := ⟨_, rfl⟩
    rw [← hW9] at hP hB
    show bodyPost _ _ _ _ _ (put8 w2 (w.heap.size + 1) y m d h i s n oo)
    rw [← hW9]
    clear hW9
    obtain ⟨r0, r1, r2, r3, r4, r5, r6, r7⟩ := hP.all
    clear hP
    refine bodyPost_ret (v := .tuple #[.agg #[.int .i64 y, .int .i64 m, .int .i64 d, .int .i64 h, .int .i64 i, .int .i64 s, .int .i64 n, .int .i64 oo], .int .i64 E]) (by simp [results, Tryd.results17, go_sem, r0, r1, r2, r3, r4, r5, r6, r7]) rfl ⟨rfl, hB⟩
  · rw [show atE l o = lbE l from if_neg h]
    have h' := ne_z h
    clear h
    show Calls _ _ _ _ fun e w' => e = .returned (.tuple #[.agg #[.int .i64 0, .int .i64 0, .int .i64 0, .int .i64 0, .int .i64 0, .int .i64 0, .int .i64 0, .int .i64 0], _]) ∧ _
    generalize lbE l = E at *
    generalize lbN l = N at *
    generalize lbT l = T at *
    go_enter Tryd.func17, Tryd.ntmps17
    go_upto_region 1 with fail
    rw [← hW0]; clear hW0
    go_wp2_with fail
    refine HS.out.mono ?_
    rintro e w1 ⟨rfl, hb⟩
    have Z1 := Lib.hid (Z0.out.keep hb)
    have B1 := Lib.hid (B0.out.trans (hb.mono B0.out.size))
    clear hb c0 c1 c2 c3 c4 c5 c6 c7
    obtain ⟨f0, f1, f2, f3, f4, f5, f6, f7⟩ := Z1.out.frees
    obtain ⟨c0, c1, c2, c3, c4, c5, c6, c7⟩ := Z1.out.all
    go_wp2_with fail
    have hP := put8_lk Z1.out 0 0 0 0 0 0 0 0
    have hB := put8_below B1.out (Nat.le_succ _) 0 0 0 0 0 0 0 0
    obtain ⟨W9, hW9⟩ : ∃ W9, W9 = put8 w1 (w.heap.size + 1) 0 0 0 0 0 0 0 0 := ⟨_, rfl⟩
    rw [← hW9] at hP hB
    show bodyPost _ _ _ _ _ (put8 w1 (w.heap.size + 1) 0 0 0 0 0 0 0 0)
    rw [← hW9]
    clear hW9
    obtain ⟨r0, r1, r2, r3, r4, r5, r6, r7⟩ := hP.all
    clear hP
    refine bodyPost_ret (v := .tuple #[.agg #[.int .i64 0, .int .i64 0, .int .i64 0, .int .i64 0, .int .i64 0, .int .i64 0, .int .i64 0, .int .i64 0], .int .i64 E]) (by simp [results, Tryd.results17, go_sem, r0, r1, r2, r3, r4, r5, r6, r7]) rfl ⟨rfl, hB⟩


set_option maxRecDepth 100000 in
set_option maxHeartbeats 4000000 in
theorem lrcompare_a (a b : Lb) (w : World) (h : lbE a ≠ 0) :
    Calls Tryd.prog 23 #[.agg a.cells, .agg b.cells] w fun e w' => e = .returned (.tuple #[.int .i64 0, .int .i64 (lbE a)]) ∧ Below w.heap.size w w' := by
  obtain ⟨W0, hW0⟩ : ∃ W0, W0 = (w.alloc (.cells a.cells 31)).alloc (.cells b.cells 31) := ⟨_, rfl⟩
  obtain ⟨p0, z0, b0⟩ := both_lk 31 31 w a b
  rw [← hW0] at p0 z0 b0
  obtain ⟨c0, c1, c2, c3, c4, c5, c6, c7⟩ := p0.all
  have P0 := Lib.hid p0; have Z0 := Lib.hid z0; have B0 := Lib.hid b0
  have hA := lrsplit_any a W0
  have hB := fun w => lrsplit_any b w
  clear p0 z0 b0
  have h' := ne_z h
  have HA := Lib.hid hA
  clear h hA hB
  generalize lbE a = E at *
  generalize lbN a = N at *
  generalize lbT a = T at *
  go_enter Tryd.func23, Tryd.ntmps23
  go_upto_region 1 with fail
  rw [← hW0]; clear hW0
  go_wp2_with fail
  refine HA.out.mono ?_
  rintro e w1 ⟨rfl, hb⟩
  have P1 := Lib.hid (P0.out.keep hb); have Z1 := Lib.hid (Z0.out.keep hb)
  have B1 := Lib.hid (B0.out.trans (hb.mono B0.out.size))
  clear hb c0 c1 c2 c3 c4 c5 c6 c7
  go_wp2_with fail
  go_ret2
  exact ⟨rfl, B1.out⟩

set_option maxRecDepth 100000 in
set_option maxHeartbeats 4000000 in
theorem lrcompare_b (a b : Lb) (w : World) (h : lbE a = 0) (k : lbE b ≠ 0) :
    Calls Tryd.prog 23 #[.agg a.cells, .agg b.cells] w fun e w' => e = .returned (.tuple #[.int .i64 0, .int .i64 (lbE b)]) ∧ Below w.heap.size w w' := by
  obtain ⟨W0, hW0⟩ : ∃ W0, W0 = (w.alloc (.cells a.cells 31)).alloc (.cells b.cells 31) := ⟨_, rfl⟩
  obtain ⟨p0, z0, b0⟩ := both_lk 31 31 w a b
  rw [← hW0] at p0 z0 b0
  obtain ⟨c0, c1, c2, c3, c4, c5, c6, c7⟩ := p0.all
  have P0 := Lib.hid p0; have Z0 := Lib.hid z0; have B0 := Lib.hid b0
  have hA := lrsplit_any a W0
  have hB := fun w => lrsplit_any b w
  clear p0 z0 b0
  rw [h] at hA
  have k' := ne_z k
  have HA := Lib.hid hA; have HB := Lib.hid hB
  clear h k hA hB
  generalize lbE b = E at *
  generalize lbN a = N at *
  generalize lbT a = T at *
  generalize lbN b = M at *
  generalize lbT b = U at *
  go_enter Tryd.func23, Tryd.ntmps23
  go_upto_region 1 with fail
  rw [← hW0]; clear hW0
  go_wp2_with fail
  refine HA.out.mono ?_
  rintro e w1 ⟨rfl, hb⟩
  have P1 := Lib.hid (P0.out.keep hb); have Z1 := Lib.hid (Z0.out.keep hb)
  have B1 := Lib.hid (B0.out.trans (hb.mono B0.out.size))
  clear hb c0 c1 c2 c3 c4 c5 c6 c7
  obtain ⟨c0, c1, c2, c3, c4, c5, c6, c7⟩ := Z1.out.all
  go_wp2_with fail
  refine (HB.out _).mono ?_
  rintro e w2 ⟨rfl, hb⟩
  have B2 := Lib.hid (B1.out.trans (hb.mono B1.out.size))
  clear hb c0 c1 c2 c3 c4 c5 c6 c7
  go_wp2_with fail
  go_ret2
  exact ⟨rfl, B2.out⟩

set_option maxRecDepth 100000 in
set_option maxHeartbeats 4000000 in
theorem lrcompare_0 (a b : Lb) (w : World) (h : lbE a = 0) (k : lbE b = 0) (x : lbN a < lbN b) :
    Calls Tryd.prog 23 #[.agg a.cells, .agg b.cells] w fun e w' => e = .returned (.tuple #[.int .i64 (-1), .int .i64 0]) ∧ Below w.heap.size w w' := by
  obtain ⟨W0, hW0⟩ : ∃ W0, W0 = (w.alloc (.cells a.cells 31)).alloc (.cells b.cells 31) := ⟨_, rfl⟩
  obtain ⟨p0, z0, b0⟩ := both_lk 31 31 w a b
  rw [← hW0] at p0 z0 b0
  obtain ⟨c0, c1, c2, c3, c4, c5, c6, c7⟩ := p0.all
  have P0 := Lib.hid p0; have Z0 := Lib.hid z0; have B0 := Lib.hid b0
  have hA := lrsplit_any a W0
  have hB := fun w => lrsplit_any b w
  clear p0 z0 b0
  rw [h] at hA
  rw [k] at hB
  have HA := Lib.hid hA; have HB := Lib.hid hB
  clear h k hA hB
  generalize lbN a = N at *
  generalize lbT a = T at *
  generalize lbN b = M at *
  generalize lbT b = U at *
  have x0 : decide (N < M) = true := by first | exact decide_eq_true (by omega) | exact decide_eq_false (by omega) | exact beq_iff_eq.2 (by omega) | exact beq_eq_false_iff_ne.2 (by omega)
  clear x
  go_enter Tryd.func23, Tryd.ntmps23
  go_upto_region 1 with fail
  rw [← hW0]; clear hW0
  go_wp2_with fail
  refine HA.out.mono ?_
  rintro e w1 ⟨rfl, hb⟩
  have P1 := Lib.hid (P0.out.keep hb); have Z1 := Lib.hid (Z0.out.keep hb)
  have B1 := Lib.hid (B0.out.trans (hb.mono B0.out.size))
  clear hb c0 c1 c2 c3 c4 c5 c6 c7
  obtain ⟨c0, c1, c2, c3, c4, c5, c6, c7⟩ := Z1.out.all
  go_wp2_with fail
  refine (HB.out _).mono ?_
  rintro e w2 ⟨rfl, hb⟩
  obtain ⟨-, -, -, -, -, -, p6, -⟩ := (P1.out.keep hb).all
  obtain ⟨-, -, -, -, -, -, z6, -⟩ := (Z1.out.keep hb).all
  have B2 := Lib.hid (B1.out.trans (hb.mono B1.out.size))
  clear hb c0 c1 c2 c3 c4 c5 c6 c7
  go_wp2_with fail
  go_ret2
  exact ⟨rfl, B2.out⟩

set_option maxRecDepth 100000 in
set_option maxHeartbeats 4000000 in
theorem lrcompare_1 (a b : Lb) (w : World) (h : lbE a = 0) (k : lbE b = 0) (x : ¬ lbN a < lbN b ∧ lbN a ≠ lbN b) :
    Calls Tryd.prog 23 #[.agg a.cells, .agg b.cells] w fun e w' => e = .returned (.tuple #[.int .i64 1, .int .i64 0]) ∧ Below w.heap.size w w' := by
  obtain ⟨W0, hW0⟩ : ∃ W0, W0 = (w.alloc (.cells a.cells 31)).alloc (.cells b.cells 31) := ⟨_, rfl⟩
  obtain ⟨p0, z0, b0⟩ := both_lk 31 31 w a b
  rw [← hW0] at p0 z0 b0
  obtain ⟨c0, c1, c2, c3, c4, c5, c6, c7⟩ := p0.all
  have P0 := Lib.hid p0; have Z0 := Lib.hid z0; have B0 := Lib.hid b0
  have hA := lrsplit_any a W0
  have hB := fun w => lrsplit_any b w
  clear p0 z0 b0
  rw [h] at hA
  rw [k] at hB
  have HA := Lib.hid hA; have HB := Lib.hid hB
  clear h k hA hB
  generalize lbN a = N at *
  generalize lbT a = T at *
  generalize lbN b = M at *
  generalize lbT b = U at *
  have x0 : decide (N < M) = false := by first | exact decide_eq_true (by omega) | exact decide_eq_false (by omega) | exact beq_iff_eq.2 (by omega) | exact beq_eq_false_iff_ne.2 (by omega)
  have x1 : (N == M) = false := by first | exact decide_eq_true (by omega) | exact decide_eq_false (by omega) | exact beq_iff_eq.2 (by omega) | exact beq_eq_false_iff_ne.2 (by omega)
  clear x
  go_enter Tryd.func23, Tryd.ntmps23
  go_upto_region 1 with fail
  rw [← hW0]; clear hW0
  go_wp2_with fail
  refine HA.out.mono ?_
  rintro e w1 ⟨rfl, hb⟩
  have P1 := Lib.hid (P0.out.keep hb); have Z1 := Lib.hid (Z0.out.keep hb)
  have B1 := Lib.hid (B0.out.trans (hb.mono B0.out.size))
  clear hb c0 c1 c2 c3 c4 c5 c6 c7
  obtain ⟨c0, c1, c2, c3, c4, c5, c6, c7⟩ := Z1.out.all
  go_wp2_with fail
  refine (HB.out _).mono ?_
  rintro e w2 ⟨rfl, hb⟩
  obtain ⟨-, -, -, -, -, -, p6, -⟩ := (P1.out.keep hb).all
  obtain ⟨-, -, -, -, -, -, z6, -⟩ := (Z1.out.keep hb).all
  have B2 := Lib.hid (B1.out.trans (hb.mono B1.out.size))
  clear hb c0 c1 c2 c3 c4 c5 c6 c7
  go_wp2_with fail
  go_ret2
  exact ⟨rfl, B2.out⟩

set_option maxRecDepth 100000 in
set_option maxHeartbeats 4000000 in
theorem lrcompare_2 (a b : Lb) (w : World) (h : lbE a = 0) (k : lbE b = 0) (x : lbN a = lbN b ∧ lbT a < lbT b) :
    Calls Tryd.prog 23 #[.agg a.cells, .agg b.cells] w fun e w' => e = .returned (.tuple #[.int .i64 (-1), .int .i64 0]) ∧ Below w.heap.size w w' := by
  obtain ⟨W0, hW0⟩ : ∃ W0, W0 = (w.alloc (.cells a.cells 31)).alloc (.cells b.cells 31) := ⟨_, rfl⟩
  obtain ⟨p0, z0, b0⟩ := both_lk 31 31 w a b
  rw [← hW0] at p0 z0 b0
  obtain ⟨c0, c1, c2, c3, c4, c5, c6, c7⟩ := p0.all
  have P0 := Lib.hid p0; have Z0 := Lib.hid z0; have B0 := Lib.hid b0
  have hA := lrsplit_any a W0
  have hB := fun w => lrsplit_any b w
  clear p0 z0 b0
  rw [h] at hA
  rw [k] at hB
  have HA := Lib.hid hA; have HB := Lib.hid hB
  clear h k hA hB
  generalize lbN a = N at *
  generalize lbT a = T at *
  generalize lbN b = M at *
  generalize lbT b = U at *
  have x0 : decide (N < M) = false := by first | exact decide_eq_true (by omega) | exact decide_eq_false (by omega) | exact beq_iff_eq.2 (by omega) | exact beq_eq_false_iff_ne.2 (by omega)
  have x1 : (N == M) = true := by first | exact decide_eq_true (by omega) | exact decide_eq_false (by omega) | exact beq_iff_eq.2 (by omega) | exact beq_eq_false_iff_ne.2 (by omega)
  have x2 : decide (T < U) = true := by first | exact decide_eq_true (by omega) | exact decide_eq_false (by omega) | exact beq_iff_eq.2 (by omega) | exact beq_eq_false_iff_ne.2 (by omega)
  clear x
  go_enter Tryd.func23, Tryd.ntmps23
  go_upto_region 1 with fail
  rw [← hW0]; clear hW0
  go_wp2_with fail
  refine HA.out.mono ?_
  rintro e w1 ⟨rfl, hb⟩
  have P1 := Lib.hid (P0.out.keep hb); have Z1 := Lib.hid (Z0.out.keep hb)
  have B1 := Lib.hid (B0.out.trans (hb.mono B0.out.size))
  clear hb c0 c1 c2 c3 c4 c5 c6 c7
  obtain ⟨c0, c1, c2, c3, c4, c5, c6, c7⟩ := Z1.out.all
  go_wp2_with fail
  refine (HB.out _).mono ?_
  rintro e w2 ⟨rfl, hb⟩
  obtain ⟨-, -, -, -, -, -, p6, -⟩ := (P1.out.keep hb).all
  obtain ⟨-, -, -, -, -, -, z6, -⟩ := (Z1.out.keep hb).all
  have B2 := Lib.hid (B1.out.trans (hb.mono B1.out.size))
  clear hb c0 c1 c2 c3 c4 c5 c6 c7
  go_wp2_with fail
  go_ret2
  exact ⟨rfl, B2.out⟩

set_option maxRecDepth 100000 in
set_option maxHeartbeats 4000000 in
theorem lrcompare_3 (a b : Lb) (w : World) (h : lbE a = 0) (k : lbE b = 0) (x : lbN a = lbN b ∧ ¬ lbT a < lbT b ∧ lbT a ≠ lbT b) :
    Calls Tryd.prog 23 #[.agg a.cells, .agg b.cells] w fun e w' => e = .returned (.tuple #[.int .i64 1, .int .i64 0]) ∧ Below w.heap.size w w' := by
  obtain ⟨W0, hW0⟩ : ∃ W0, W0 = (w.alloc (.cells a.cells 31)).alloc (.cells b.cells 31) := ⟨_, rfl⟩
  obtain ⟨p0, z0, b0⟩ := both_lk 31 31 w a b
  rw [← hW0] at p0 z0 b0
  obtain ⟨c0, c1, c2, c3, c4, c5, c6, c7⟩ := p0.all
  have P0 := Lib.hid p0; have Z0 := Lib.hid z0; have B0 := Lib.hid b0
  have hA := lrsplit_any a W0
  have hB := fun w => lrsplit_any b w
  clear p0 z0 b0
  rw [h] at hA
  rw [k] at hB
  have HA := Lib.hid hA; have HB := Lib.hid hB
  clear h k hA hB
  generalize lbN a = N at *
  generalize lbT a = T at *
  generalize lbN b = M at *
  generalize lbT b = U at *
  have x0 : decide (N < M) = false := by first | exact decide_eq_true (by omega) | exact decide_eq_false (by omega) | exact beq_iff_eq.2 (by omega) | exact beq_eq_false_iff_ne.2 (by omega)
  have x1 : (N == M) = true := by first | exact decide_eq_true (by omega) | exact decide_eq_false (by omega) | exact beq_iff_eq.2 (by omega) | exact beq_eq_false_iff_ne.2 (by omega)
  have x2 : decide (T < U) = false := by first | exact decide_eq_true (by omega) | exact decide_eq_false (by omega) | exact beq_iff_eq.2 (by omega) | exact beq_eq_false_iff_ne.2 (by omega)
  have x3 : (T == U) = false := by first | exact decide_eq_true (by omega) | exact decide_eq_false (by omega) | exact beq_iff_eq.2 (by omega) | exact beq_eq_false_iff_ne.2 (by omega)
  clear x
  go_enter Tryd.func23, Tryd.ntmps23
  go_upto_region 1 with fail
  rw [← hW0]; clear hW0
  go_wp2_with fail
  refine HA.out.mono ?_
  rintro e w1 ⟨rfl, hb⟩
  have P1 := Lib.hid (P0.out.keep hb); have Z1 := Lib.hid (Z0.out.keep hb)
  have B1 := Lib.hid (B0.out.trans (hb.mono B0.out.size))
  clear hb c0 c1 c2 c3 c4 c5 c6 c7
  obtain ⟨c0, c1, c2, c3, c4, c5, c6, c7⟩ := Z1.out.all
  go_wp2_with fail
  refine (HB.out _).mono ?_
  rintro e w2 ⟨rfl, hb⟩
  obtain ⟨-, -, -, -, -, -, p6, -⟩ := (P1.out.keep hb).all
  obtain ⟨-, -, -, -, -, -, z6, -⟩ := (Z1.out.keep hb).all
  have B2 := Lib.hid (B1.out.trans (hb.mono B1.out.size))
  clear hb c0 c1 c2 c3 c4 c5 c6 c7
  go_wp2_with fail
  go_ret2
  exact ⟨rfl, B2.out⟩

set_option maxRecDepth 100000 in
set_option maxHeartbeats 4000000 in
theorem lrcompare_4 (a b : Lb) (w : World) (h : lbE a = 0) (k : lbE b = 0) (x : lbN a = lbN b ∧ lbT a = lbT b ∧ a.n < b.n) :
    Calls Tryd.prog 23 #[.agg a.cells, .agg b.cells] w fun e w' => e = .returned (.tuple #[.int .i64 (-1), .int .i64 0]) ∧ Below w.heap.size w w' := by
  obtain ⟨W0, hW0⟩ : ∃ W0, W0 = (w.alloc (.cells a.cells 31)).alloc (.cells b.cells 31) := ⟨_, rfl⟩
  obtain ⟨p0, z0, b0⟩ := both_lk 31 31 w a b
  rw [← hW0] at p0 z0 b0
  obtain ⟨c0, c1, c2, c3, c4, c5, c6, c7⟩ := p0.all
  have P0 := Lib.hid p0; have Z0 := Lib.hid z0; have B0 := Lib.hid b0
  have hA := lrsplit_any a W0
  have hB := fun w => lrsplit_any b w
  clear p0 z0 b0
  rw [h] at hA
  rw [k] at hB
  have HA := Lib.hid hA; have HB := Lib.hid hB
  clear h k hA hB
  generalize lbN a = N at *
  generalize lbT a = T at *
  generalize lbN b = M at *
  generalize lbT b = U at *
  have x0 : decide (N < M) = false := by first | exact decide_eq_true (by omega) | exact decide_eq_false (by omega) | exact beq_iff_eq.2 (by omega) | exact beq_eq_false_iff_ne.2 (by omega)
  have x1 : (N == M) = true := by first | exact decide_eq_true (by omega) | exact decide_eq_false (by omega) | exact beq_iff_eq.2 (by omega) | exact beq_eq_false_iff_ne.2 (by omega)
  have x2 : decide (T < U) = false := by first | exact decide_eq_true (by omega) | exact decide_eq_false (by omega) | exact beq_iff_eq.2 (by omega) | exact beq_eq_false_iff_ne.2 (by omega)
  have x3 : (T == U) = true := by first | exact decide_eq_true (by omega) | exact decide_eq_false (by omega) | exact beq_iff_eq.2 (by omega) | exact beq_eq_false_iff_ne.2 (by omega)
  have x4 : decide (a.n < b.n) = true := by first | exact decide_eq_true (by omega) | exact decide_eq_false (by omega) | exact beq_iff_eq.2 (by omega) | exact beq_eq_false_iff_ne.2 (by omega)
  clear x
  go_enter Tryd.func23, Tryd.ntmps23
  go_upto_region 1 with fail
  rw [← hW0]; clear hW0
  go_wp2_with fail
  refine HA.out.mono ?_
  rintro e w1 ⟨rfl, hb⟩
  have P1 := Lib.hid (P0.out.keep hb); have Z1 := Lib.hid (Z0.out.keep hb)
  have B1 := Lib.hid (B0.out.trans (hb.mono B0.out.size))
  clear hb c0 c1 c2 c3 c4 c5 c6 c7
  obtain ⟨c0, c1, c2, c3, c4, c5, c6, c7⟩ := Z1.out.all
  go_wp2_with fail
  refine (HB.out _).mono ?_
  rintro e w2 ⟨rfl, hb⟩
  obtain ⟨-, -, -, -, -, -, p6, -⟩ := (P1.out.keep hb).all
  obtain ⟨-, -, -, -, -, -, z6, -⟩ := (Z1.out.keep hb).all
  have B2 := Lib.hid (B1.out.trans (hb.mono B1.out.size))
  clear hb c0 c1 c2 c3 c4 c5 c6 c7
  go_wp2_with fail
  go_ret2
  exact ⟨rfl, B2.out⟩

set_option maxRecDepth 100000 in
set_option maxHeartbeats 4000000 in
theorem lrcompare_5 (a b : Lb) (w : World) (h : lbE a = 0) (k : lbE b = 0) (x : lbN a = lbN b ∧ lbT a = lbT b ∧ ¬ a.n < b.n ∧ a.n ≠ b.n) :
    Calls Tryd.prog 23 #[.agg a.cells, .agg b.cells] w fun e w' => e = .returned (.tuple #[.int .i64 1, .int .i64 0]) ∧ Below w.heap.size w w' := by
  obtain ⟨W0, hW0⟩ : ∃ W0, W0 = (w.alloc (.cells a.cells 31)).alloc (.cells b.cells 31) := ⟨_, rfl⟩
  obtain ⟨p0, z0, b0⟩ := both_lk 31 31 w a b
  rw [← hW0] at p0 z0 b0
  obtain ⟨c0, c1, c2, c3, c4, c5, c6, c7⟩ := p0.all
  have P0 := Lib.hid p0; have Z0 := Lib.hid z0; have B0 := Lib.hid b0
  have hA := lrsplit_any a W0
  have hB := fun w => lrsplit_any b w
  clear p0 z0 b0
  rw [h] at hA
  rw [k] at hB
  have HA := Lib.hid hA; have HB := Lib.hid hB
  clear h k hA hB
  generalize lbN a = N at *
  generalize lbT a = T at *
  generalize lbN b = M at *
  generalize lbT b = U at *
  have x0 : decide (N < M) = false := by first | exact decide_eq_true (by omega) | exact decide_eq_false (by omega) | exact beq_iff_eq.2 (by omega) | exact beq_eq_false_iff_ne.2 (by omega)
  have x1 : (N == M) = true := by first | exact decide_eq_true (by omega) | exact decide_eq_false (by omega) | exact beq_iff_eq.2 (by omega) | exact beq_eq_false_iff_ne.2 (by omega)
  have x2 : decide (T < U) = false := by first | exact decide_eq_true (by omega) | exact decide_eq_false (by omega) | exact beq_iff_eq.2 (by omega) | exact beq_eq_false_iff_ne.2 (by omega)
  have x3 : (T == U) = true := by first | exact decide_eq_true (by omega) | exact decide_eq_false (by omega) | exact beq_iff_eq.2 (by omega) | exact beq_eq_false_iff_ne.2 (by omega)
  have x4 : decide (a.n < b.n) = false := by first | exact decide_eq_true (by omega) | exact decide_eq_false (by omega) | exact beq_iff_eq.2 (by omega) | exact beq_eq_false_iff_ne.2 (by omega)
  have x5 : (a.n == b.n) = false := by first | exact decide_eq_true (by omega) | exact decide_eq_false (by omega) | exact beq_iff_eq.2 (by omega) | exact beq_eq_false_iff_ne.2 (by omega)
  clear x
  go_enter Tryd.func23, Tryd.ntmps23
  go_upto_region 1 with fail
  rw [← hW0]; clear hW0
  go_wp2_with fail
  refine HA.out.mono ?_
  rintro e w1 ⟨rfl, hb⟩
  have P1 := Lib.hid (P0.out.keep hb); have Z1 := Lib.hid (Z0.out.keep hb)
  have B1 := Lib.hid (B0.out.trans (hb.mono B0.out.size))
  clear hb c0 c1 c2 c3 c4 c5 c6 c7
  obtain ⟨c0, c1, c2, c3, c4, c5, c6, c7⟩ := Z1.out.all
  go_wp2_with fail
  refine (HB.out _).mono ?_
  rintro e w2 ⟨rfl, hb⟩
  obtain ⟨-, -, -, -, -, -, p6, -⟩ := (P1.out.keep hb).all
  obtain ⟨-, -, -, -, -, -, z6, -⟩ := (Z1.out.keep hb).all
  have B2 := Lib.hid (B1.out.trans (hb.mono B1.out.size))
  clear hb c0 c1 c2 c3 c4 c5 c6 c7
  go_wp2_with fail
  go_ret2
  exact ⟨rfl, B2.out⟩

set_option maxRecDepth 100000 in
set_option maxHeartbeats 4000000 in
theorem lrcompare_6 (a b : Lb) (w : World) (h : lbE a = 0) (k : lbE b = 0) (x : lbN a = lbN b ∧ lbT a = lbT b ∧ a.n = b.n) :
    Calls Tryd.prog 23 #[.agg a.cells, .agg b.cells] w fun e w' => e = .returned (.tuple #[.int .i64 0, .int .i64 0]) ∧ Below w.heap.size w w' := by
  obtain ⟨W0, hW0⟩ : ∃ W0, W0 = (w.alloc (.cells a.cells 31)).alloc (.cells b.cells 31) := ⟨_, rfl⟩
  obtain ⟨p0, z0, b0⟩ := both_lk 31 31 w a b
  rw [← hW0] at p0 z0 b0
  obtain ⟨c0, c1, c2, c3, c4, c5, c6, c7⟩ := p0.all
  have P0 := Lib.hid p0; have Z0 := Lib.hid z0; have B0 := Lib.hid b0
  have hA := lrsplit_any a W0
  have hB := fun w => lrsplit_any b w
  clear p0 z0 b0
  rw [h] at hA
  rw [k] at hB
  have HA := Lib.hid hA; have HB := Lib.hid hB
  clear h k hA hB
  generalize lbN a = N at *
  generalize lbT a = T at *
  generalize lbN b = M at *
  generalize lbT b = U at *
  have x0 : decide (N < M) = false := by first | exact decide_eq_true (by omega) | exact decide_eq_false (by omega) | exact beq_iff_eq.2 (by omega) | exact beq_eq_false_iff_ne.2 (by omega)
  have x1 : (N == M) = true := by first | exact decide_eq_true (by omega) | exact decide_eq_false (by omega) | exact beq_iff_eq.2 (by omega) | exact beq_eq_false_iff_ne.2 (by omega)
  have x2 : decide (T < U) = false := by first | exact decide_eq_true (by omega) | exact decide_eq_false (by omega) | exact beq_iff_eq.2 (by omega) | exact beq_eq_false_iff_ne.2 (by omega)
  have x3 : (T == U) = true := by first | exact decide_eq_true (by omega) | exact decide_eq_false (by omega) | exact beq_iff_eq.2 (by omega) | exact beq_eq_false_iff_ne.2 (by omega)
  have x4 : decide (a.n < b.n) = false := by first | exact decide_eq_true (by omega) | exact decide_eq_false (by omega) | exact beq_iff_eq.2 (by omega) | exact beq_eq_false_iff_ne.2 (by omega)
  have x5 : (a.n == b.n) = true := by first | exact decide_eq_true (by omega) | exact decide_eq_false (by omega) | exact beq_iff_eq.2 (by omega) | exact beq_eq_false_iff_ne.2 (by omega)
  clear x
  go_enter Tryd.func23, Tryd.ntmps23
  go_upto_region 1 with fail
  rw [← hW0]; clear hW0
  go_wp2_with fail
  refine HA.out.mono ?_
  rintro e w1 ⟨rfl, hb⟩
  have P1 := Lib.hid (P0.out.keep hb); have Z1 := Lib.hid (Z0.out.keep hb)
  have B1 := Lib.hid (B0.out.trans (hb.mono B0.out.size))
  clear hb c0 c1 c2 c3 c4 c5 c6 c7
  obtain ⟨c0, c1, c2, c3, c4, c5, c6, c7⟩ := Z1.out.all
  go_wp2_with fail
  refine (HB.out _).mono ?_
  rintro e w2 ⟨rfl, hb⟩
  obtain ⟨-, -, -, -, -, -, p6, -⟩ := (P1.out.keep hb).all
  obtain ⟨-, -, -, -, -, -, z6, -⟩ := (Z1.out.keep hb).all
  have B2 := Lib.hid (B1.out.trans (hb.mono B1.out.size))
  clear hb c0 c1 c2 c3 c4 c5 c6 c7
  go_wp2_with fail
  go_ret2
  exact ⟨rfl, B2.out⟩

theorem lrcompare_any (a b : Lb) (w : World) :
    Calls Tryd.prog 23 #[.agg a.cells, .agg b.cells] w fun e w' => e = .returned (.tuple #[.int .i64 (cmV a b), .int .i64 (cmE a b)]) ∧ Below w.heap.size w w' := by
  by_cases h : lbE a = 0
  · by_cases k : lbE b = 0
    · have e : cmE a b = 0 := by unfold cmE; rw [if_pos h, k]
      rw [show cmV a b = cm3 a b from if_pos e, e]
      have h3 := cm3_is a b
      by_cases x : lbN a < lbN b
      · rw [show cm3 a b = -1 by omega]; exact lrcompare_0 a b w h k x
      by_cases y : lbN a = lbN b
      · by_cases x : lbT a < lbT b
        · rw [show cm3 a b = -1 by omega]; exact lrcompare_2 a b w h k ⟨y, x⟩
        by_cases z : lbT a = lbT b
        · by_cases u : a.n < b.n
          · rw [show cm3 a b = -1 by omega]; exact lrcompare_4 a b w h k ⟨y, z, u⟩
          by_cases v : a.n = b.n
          · rw [show cm3 a b = 0 by omega]; exact lrcompare_6 a b w h k ⟨y, z, v⟩
          · rw [show cm3 a b = 1 by omega]; exact lrcompare_5 a b w h k ⟨y, z, u, v⟩
        · rw [show cm3 a b = 1 by omega]; exact lrcompare_3 a b w h k ⟨y, x, z⟩
      · rw [show cm3 a b = 1 by omega]; exact lrcompare_1 a b w h k ⟨x, y⟩
    · have e : cmE a b = lbE b := if_pos h
      rw [show cmV a b = 0 from if_neg (by rw [e]; exact k), e]
      exact lrcompare_b a b w h k
  · have e : cmE a b = lbE a := if_neg h
    rw [show cmV a b = 0 from if_neg (by rw [e]; exact h), e]
    exact lrcompare_a a b w h

end Go.Proofs.YtlnijcfgkhbfhaaDoor
