/- The document's answer for labels: Of, ahead of the last second. Written by gen_labi.py. -/
import Derived.Test.YtiamggjebaabkaaDoorLabF
namespace Go.Proofs.YtiamggjebaabkaaDoor
open Go.RowKit
set_option linter.unusedVariables false

theorem Lk.far2 {T : TypeId} {w : World} {p q : Nat} {l : Lb} (h : Lk T w q l) (hne : p ≠ q) (i : Nat) (x : Value) : Lk T (w.setCell ⟨p, i, none⟩ x) q l := by
  unfold Lk at *
  rw [Below.heap_setCell _ _ _ _ (by show q ≠ p; omega)]; exact h


set_option maxRecDepth 100000 in
set_option maxHeartbeats 4000000 in
theorem lrof_e0y (n t nn o : Int) (w : World) (a : dyok n) (b : ckB t) (c : nnok nn) (g : ofok o) (ht : t ≠ 86400) (m1 : (t / 60) + o < 0) {y m d : Int} (D : Dt (n - 1) y m d) :
    Calls Tryd.prog 48 #[.int .i64 n, .int .i64 t, .int .i64 nn, .int .i64 o] w fun e w' => e = .returned (.tuple #[.agg #[.int .i64 y, .int .i64 m, .int .i64 d, .int .i64 (((t / 60) + o + 1440) / 60), .int .i64 (((t / 60) + o + 1440) % 60), .int .i64 (t % 60), .int .i64 nn, .int .i64 o], .int .i64 0]) ∧ Below w.heap.size w w' := by
  obtain ⟨W0, hW0⟩ : ∃ W0, W0 = w.alloc (.cells #[.int .i64 0, .int .i64 0, .int .i64 0, .int .i64 0, .int .i64 0, .int .i64 0, .int .i64 0, .int .i64 0] 35) := ⟨_, rfl⟩
  have B0 : Hid (Below w.heap.size w W0) := Lib.hid (by rw [hW0]; exact bel_new w _)
  have L0 : Lk 35 W0 w.heap.size lb0 := by rw [hW0]; exact lk_new _ _ lb0
  have P0 := Lib.hid L0
  have LT : Hid (w.heap.size < W0.heap.size) := Lib.hid L0.lt
  have hT := fun w => lrthere_any n w
  rw [decide_eq_true a] at hT
  have HT := Lib.hid hT; clear hT
  have hU := fun w => lrthere_any (n - 1) w
  rw [decide_eq_true (show dyok (n - 1) from D.range)] at hU
  have HU := Lib.hid hU; clear hU
  have HX := Lib.hid (fun w => rdate_some (n - 1) y m d w D)
  have n0 := a.1; have n1 := a.2
  have p1 : 0 ≤ (t / 60) + o + 1440 := by unfold ofok at g; unfold ckB at b; omega
  have p2 : ¬ (t / 60) + o + 1440 ≥ 1440 := by omega
  unfold ckB at b
  unfold nnok at c
  unfold ofok at g
  obtain ⟨t0, t1⟩ := b
  obtain ⟨o0, o1⟩ := g
  have b1 : decide (t < 0) = false := decide_eq_false (by omega)
  have b2 : decide (86400 < t) = false := decide_eq_false (by omega)
  have b3 : decide (nn < 0) = false := decide_eq_false (by omega)
  have b4 : decide (999999999 < nn) = false := decide_eq_false (by omega)
  have b5 : decide (o < -1439) = false := decide_eq_false (by omega)
  have b6 : decide (1439 < o) = false := decide_eq_false (by omega)
  have b7 : (t == 86400) = false := by simpa using ht
  obtain ⟨q0, q1⟩ : 0 ≤ t / 60 ∧ t / 60 ≤ 1439 := by omega
  clear L0 a ht D
  go_enter Tryd.func48, Tryd.ntmps48
  go_upto_region 1 with fail
  rw [← hW0]; clear hW0
  go_upto_region 17 with (go_at_call 65; refine (HT.out _).mono ?_; rintro e w' ⟨rfl, rfl⟩)
  obtain ⟨W2, hW2⟩ : ∃ W2, W2 = W0.alloc (.cells #[.int .i64 0, .int .i64 0, .int .i64 0, .int .i64 0, .int .i64 0, .int .i64 (t % 60), .int .i64 nn, .int .i64 o] 35) := ⟨_, rfl⟩
  rw [← hW2]
  have B2 : Hid (Below w.heap.size w W2) := Lib.hid (by rw [hW2]; exact B0.out.alloc B0.out.size _)
  have Z2 : Hid (Lk 35 W2 w.heap.size lb0) := Lib.hid (by rw [hW2]; exact P0.out.keep (bel_new _ _))
  have G2 : Hid (Lk 35 W2 W0.heap.size ⟨0, 0, 0, 0, 0, (t % 60), nn, o⟩) := Lib.hid (by rw [hW2]; exact lk_new _ _ ⟨0, 0, 0, 0, 0, (t % 60), nn, o⟩)
  clear hW2
  obtain ⟨g, hg⟩ : ∃ g, g = W0.heap.size := ⟨_, rfl⟩
  rw [← hg] at G2 LT ⊢
  clear hg P0 B0
  go_wp2_with (go_at_call 65; refine (HU.out _).mono ?_; rintro e w' ⟨rfl, rfl⟩)
  refine (HX.out _).mono ?_
  rintro e w3 ⟨rfl, hb⟩
  have Z3 := Lib.hid (Z2.out.keep hb)
  have G3 := Lib.hid (G2.out.keep hb)
  have B3 := Lib.hid (B2.out.trans (hb.mono B2.out.size))
  clear hb Z2 G2 B2
  obtain ⟨f0, f1, f2, f3, f4, f5, f6, f7⟩ := G3.out.frees
  obtain ⟨c0, c1, c2, c3, c4, c5, c6, c7⟩ := G3.out.all
  go_upto_region 22 with fail
  have g9 : g ≠ w.heap.size := by have := LT.out; omega
  have g8 : w.heap.size ≤ g := by have := LT.out; omega
  have hG := ((((G3.out.s0 y).s1 m).s2 d).s3 (((t / 60) + o + 1440) / 60)).s4 (((t / 60) + o + 1440) % 60)
  have hZ := ((((Z3.out.far2 g9 0 (.int .i64 y)).far2 g9 1 (.int .i64 m)).far2 g9 2 (.int .i64 d)).far2 g9 3 (.int .i64 (((t / 60) + o + 1440) / 60))).far2 g9 4 (.int .i64 (((t / 60) + o + 1440) % 60))
  have hB := ((((B3.out.setCell g8 (p := ⟨g, 0, none⟩) (.int .i64 y)).setCell g8 (p := ⟨g, 1, none⟩) (.int .i64 m)).setCell g8 (p := ⟨g, 2, none⟩) (.int .i64 d)).setCell g8 (p := ⟨g, 3, none⟩) (.int .i64 (((t / 60) + o + 1440) / 60))).setCell g8 (p := ⟨g, 4, none⟩) (.int .i64 (((t / 60) + o + 1440) % 60))
  obtain ⟨W5, hW5⟩ : ∃ W5, W5 = ((((w3.setCell ⟨g, 0, none⟩ (.int .i64 y)).setCell ⟨g, 1, none⟩ (.int .i64 m)).setCell ⟨g, 2, none⟩ (.int .i64 d)).setCell ⟨g, 3, none⟩ (.int .i64 (((t / 60) + o + 1440) / 60))).setCell ⟨g, 4, none⟩ (.int .i64 (((t / 60) + o + 1440) % 60)) := ⟨_, rfl⟩
  rw [← hW5] at hG hZ hB ⊢
  clear hW5 f0 f1 f2 f3 f4 f5 f6 f7 c0 c1 c2 c3 c4 c5 c6 c7 G3 Z3 B3
  have G5 := Lib.hid hG; have Z5 := Lib.hid hZ; have B5 := Lib.hid hB
  clear hG hZ hB
  obtain ⟨f0, f1, f2, f3, f4, f5, f6, f7⟩ := Z5.out.frees
  obtain ⟨c0, c1, c2, c3, c4, c5, c6, c7⟩ := Z5.out.all
  obtain ⟨e0, e1, e2, e3, e4, e5, e6, e7⟩ := G5.out.all
  go_wp2_with fail
  have hP := put8_lk Z5.out y m d (((t / 60) + o + 1440) / 60) (((t / 60) + o + 1440) % 60) (t % 60) nn o
  have hB := put8_below B5.out (Nat.le_refl _) y m d (((t / 60) + o + 1440) / 60) (((t / 60) + o + 1440) % 60) (t % 60) nn o
  obtain ⟨W9, hW9⟩ : ∃ W9, W9 = put8 W5 w.heap.size y m d (((t / 60) + o + 1440) / 60) (((t / 60) + o + 1440) % 60) (t % 60) nn o := ⟨_, rfl⟩
  rw [← hW9] at hP hB
  show bodyPost _ _ _ _ _ (put8 W5 w.heap.size y m d (((t / 60) + o + 1440) / 60) (((t / 60) + o + 1440) % 60) (t % 60) nn o)
  rw [← hW9]
  clear hW9
  obtain ⟨r0, r1, r2, r3, r4, r5, r6, r7⟩ := hP.all
  clear hP
  refine bodyPost_ret (v := .tuple #[.agg #[.int .i64 y, .int .i64 m, .int .i64 d, .int .i64 (((t / 60) + o + 1440) / 60), .int .i64 (((t / 60) + o + 1440) % 60), .int .i64 (t % 60), .int .i64 nn, .int .i64 o], .int .i64 0]) (by simp [results, Tryd.results48, go_sem, r0, r1, r2, r3, r4, r5, r6, r7]) rfl ⟨rfl, hB⟩

set_option maxRecDepth 100000 in
set_option maxHeartbeats 4000000 in
theorem lrof_e0n (n t nn o : Int) (w : World) (a : dyok n) (b : ckB t) (c : nnok nn) (g : ofok o) (ht : t ≠ 86400) (m1 : (t / 60) + o < 0) (k : ¬ dyok (n - 1)) :
    Calls Tryd.prog 48 #[.int .i64 n, .int .i64 t, .int .i64 nn, .int .i64 o] w fun e w' => e = .returned (.tuple #[.agg #[.int .i64 0, .int .i64 0, .int .i64 0, .int .i64 0, .int .i64 0, .int .i64 0, .int .i64 0, .int .i64 0], .int .i64 13]) ∧ Below w.heap.size w w' := by
  obtain ⟨W0, hW0⟩ : ∃ W0, W0 = w.alloc (.cells #[.int .i64 0, .int .i64 0, .int .i64 0, .int .i64 0, .int .i64 0, .int .i64 0, .int .i64 0, .int .i64 0] 35) := ⟨_, rfl⟩
  have B0 : Hid (Below w.heap.size w W0) := Lib.hid (by rw [hW0]; exact bel_new w _)
  have L0 : Lk 35 W0 w.heap.size lb0 := by rw [hW0]; exact lk_new _ _ lb0
  have P0 := Lib.hid L0
  have LT : Hid (w.heap.size < W0.heap.size) := Lib.hid L0.lt
  have hT := fun w => lrthere_any n w
  rw [decide_eq_true a] at hT
  have HT := Lib.hid hT; clear hT
  have hU := fun w => lrthere_any (n - 1) w
  rw [decide_eq_false k] at hU
  have HU := Lib.hid hU; clear hU
  have n0 := a.1; have n1 := a.2
  have p1 : 0 ≤ (t / 60) + o + 1440 := by unfold ofok at g; unfold ckB at b; omega
  have p2 : ¬ (t / 60) + o + 1440 ≥ 1440 := by omega
  unfold ckB at b
  unfold nnok at c
  unfold ofok at g
  obtain ⟨t0, t1⟩ := b
  obtain ⟨o0, o1⟩ := g
  have b1 : decide (t < 0) = false := decide_eq_false (by omega)
  have b2 : decide (86400 < t) = false := decide_eq_false (by omega)
  have b3 : decide (nn < 0) = false := decide_eq_false (by omega)
  have b4 : decide (999999999 < nn) = false := decide_eq_false (by omega)
  have b5 : decide (o < -1439) = false := decide_eq_false (by omega)
  have b6 : decide (1439 < o) = false := decide_eq_false (by omega)
  have b7 : (t == 86400) = false := by simpa using ht
  obtain ⟨q0, q1⟩ : 0 ≤ t / 60 ∧ t / 60 ≤ 1439 := by omega
  clear L0 a ht k
  go_enter Tryd.func48, Tryd.ntmps48
  go_upto_region 1 with fail
  rw [← hW0]; clear hW0
  go_upto_region 17 with (go_at_call 65; refine (HT.out _).mono ?_; rintro e w' ⟨rfl, rfl⟩)
  obtain ⟨W2, hW2⟩ : ∃ W2, W2 = W0.alloc (.cells #[.int .i64 0, .int .i64 0, .int .i64 0, .int .i64 0, .int .i64 0, .int .i64 (t % 60), .int .i64 nn, .int .i64 o] 35) := ⟨_, rfl⟩
  rw [← hW2]
  have B2 : Hid (Below w.heap.size w W2) := Lib.hid (by rw [hW2]; exact B0.out.alloc B0.out.size _)
  have Z2 : Hid (Lk 35 W2 w.heap.size lb0) := Lib.hid (by rw [hW2]; exact P0.out.keep (bel_new _ _))
  have G2 : Hid (Lk 35 W2 W0.heap.size ⟨0, 0, 0, 0, 0, (t % 60), nn, o⟩) := Lib.hid (by rw [hW2]; exact lk_new _ _ ⟨0, 0, 0, 0, 0, (t % 60), nn, o⟩)
  clear hW2
  obtain ⟨g, hg⟩ : ∃ g, g = W0.heap.size := ⟨_, rfl⟩
  rw [← hg] at G2 LT ⊢
  clear hg P0 B0
  obtain ⟨f0, f1, f2, f3, f4, f5, f6, f7⟩ := Z2.out.frees
  obtain ⟨c0, c1, c2, c3, c4, c5, c6, c7⟩ := Z2.out.all
  go_wp2_with (go_at_call 65; refine (HU.out _).mono ?_; rintro e w' ⟨rfl, rfl⟩)
  have hP := put8_lk Z2.out 0 0 0 0 0 0 0 0
  have hB := put8_below B2.out (Nat.le_refl _) 0 0 0 0 0 0 0 0
  obtain ⟨W9, hW9⟩ : ∃ W9, W9 = put8 W2 w.heap.size 0 0 0 0 0 0 0 0 := ⟨_, rfl⟩
  rw [← hW9] at hP hB
  show bodyPost _ _ _ _ _ (put8 W2 w.heap.size 0 0 0 0 0 0 0 0)
  rw [← hW9]
  clear hW9
  obtain ⟨r0, r1, r2, r3, r4, r5, r6, r7⟩ := hP.all
  clear hP
  refine bodyPost_ret (v := .tuple #[.agg #[.int .i64 0, .int .i64 0, .int .i64 0, .int .i64 0, .int .i64 0, .int .i64 0, .int .i64 0, .int .i64 0], .int .i64 13]) (by simp [results, Tryd.results48, go_sem, r0, r1, r2, r3, r4, r5, r6, r7]) rfl ⟨rfl, hB⟩

set_option maxRecDepth 100000 in
set_option maxHeartbeats 4000000 in
theorem lrof_e1y (n t nn o : Int) (w : World) (a : dyok n) (b : ckB t) (c : nnok nn) (g : ofok o) (ht : t ≠ 86400) (m1 : ¬ (t / 60) + o < 0) (m2 : ¬ (t / 60) + o ≥ 1440) {y m d : Int} (D : Dt (n) y m d) :
    Calls Tryd.prog 48 #[.int .i64 n, .int .i64 t, .int .i64 nn, .int .i64 o] w fun e w' => e = .returned (.tuple #[.agg #[.int .i64 y, .int .i64 m, .int .i64 d, .int .i64 (((t / 60) + o) / 60), .int .i64 (((t / 60) + o) % 60), .int .i64 (t % 60), .int .i64 nn, .int .i64 o], .int .i64 0]) ∧ Below w.heap.size w w' := by
  obtain ⟨W0, hW0⟩ : ∃ W0, W0 = w.alloc (.cells #[.int .i64 0, .int .i64 0, .int .i64 0, .int .i64 0, .int .i64 0, .int .i64 0, .int .i64 0, .int .i64 0] 35) := ⟨_, rfl⟩
  have B0 : Hid (Below w.heap.size w W0) := Lib.hid (by rw [hW0]; exact bel_new w _)
  have L0 : Lk 35 W0 w.heap.size lb0 := by rw [hW0]; exact lk_new _ _ lb0
  have P0 := Lib.hid L0
  have LT : Hid (w.heap.size < W0.heap.size) := Lib.hid L0.lt
  have hT := fun w => lrthere_any n w
  rw [decide_eq_true a] at hT
  have HT := Lib.hid hT; clear hT
  have hU := fun w => lrthere_any (n) w
  rw [decide_eq_true (show dyok (n) from D.range)] at hU
  have HU := Lib.hid hU; clear hU
  have HX := Lib.hid (fun w => rdate_some (n) y m d w D)
  have n0 := a.1; have n1 := a.2
  have p1 : 0 ≤ (t / 60) + o := by omega
  unfold ckB at b
  unfold nnok at c
  unfold ofok at g
  obtain ⟨t0, t1⟩ := b
  obtain ⟨o0, o1⟩ := g
  have b1 : decide (t < 0) = false := decide_eq_false (by omega)
  have b2 : decide (86400 < t) = false := decide_eq_false (by omega)
  have b3 : decide (nn < 0) = false := decide_eq_false (by omega)
  have b4 : decide (999999999 < nn) = false := decide_eq_false (by omega)
  have b5 : decide (o < -1439) = false := decide_eq_false (by omega)
  have b6 : decide (1439 < o) = false := decide_eq_false (by omega)
  have b7 : (t == 86400) = false := by simpa using ht
  obtain ⟨q0, q1⟩ : 0 ≤ t / 60 ∧ t / 60 ≤ 1439 := by omega
  clear L0 a ht D
  go_enter Tryd.func48, Tryd.ntmps48
  go_upto_region 1 with fail
  rw [← hW0]; clear hW0
  go_upto_region 17 with (go_at_call 65; refine (HT.out _).mono ?_; rintro e w' ⟨rfl, rfl⟩)
  obtain ⟨W2, hW2⟩ : ∃ W2, W2 = W0.alloc (.cells #[.int .i64 0, .int .i64 0, .int .i64 0, .int .i64 0, .int .i64 0, .int .i64 (t % 60), .int .i64 nn, .int .i64 o] 35) := ⟨_, rfl⟩
  rw [← hW2]
  have B2 : Hid (Below w.heap.size w W2) := Lib.hid (by rw [hW2]; exact B0.out.alloc B0.out.size _)
  have Z2 : Hid (Lk 35 W2 w.heap.size lb0) := Lib.hid (by rw [hW2]; exact P0.out.keep (bel_new _ _))
  have G2 : Hid (Lk 35 W2 W0.heap.size ⟨0, 0, 0, 0, 0, (t % 60), nn, o⟩) := Lib.hid (by rw [hW2]; exact lk_new _ _ ⟨0, 0, 0, 0, 0, (t % 60), nn, o⟩)
  clear hW2
  obtain ⟨g, hg⟩ : ∃ g, g = W0.heap.size := ⟨_, rfl⟩
  rw [← hg] at G2 LT ⊢
  clear hg P0 B0
  go_wp2_with (go_at_call 65; refine (HU.out _).mono ?_; rintro e w' ⟨rfl, rfl⟩)
  refine (HX.out _).mono ?_
  rintro e w3 ⟨rfl, hb⟩
  have Z3 := Lib.hid (Z2.out.keep hb)
  have G3 := Lib.hid (G2.out.keep hb)
  have B3 := Lib.hid (B2.out.trans (hb.mono B2.out.size))
  clear hb Z2 G2 B2
  obtain ⟨f0, f1, f2, f3, f4, f5, f6, f7⟩ := G3.out.frees
  obtain ⟨c0, c1, c2, c3, c4, c5, c6, c7⟩ := G3.out.all
  go_upto_region 22 with fail
  have g9 : g ≠ w.heap.size := by have := LT.out; omega
  have g8 : w.heap.size ≤ g := by have := LT.out; omega
  have hG := ((((G3.out.s0 y).s1 m).s2 d).s3 (((t / 60) + o) / 60)).s4 (((t / 60) + o) % 60)
  have hZ := ((((Z3.out.far2 g9 0 (.int .i64 y)).far2 g9 1 (.int .i64 m)).far2 g9 2 (.int .i64 d)).far2 g9 3 (.int .i64 (((t / 60) + o) / 60))).far2 g9 4 (.int .i64 (((t / 60) + o) % 60))
  have hB := ((((B3.out.setCell g8 (p := ⟨g, 0, none⟩) (.int .i64 y)).setCell g8 (p := ⟨g, 1, none⟩) (.int .i64 m)).setCell g8 (p := ⟨g, 2, none⟩) (.int .i64 d)).setCell g8 (p := ⟨g, 3, none⟩) (.int .i64 (((t / 60) + o) / 60))).setCell g8 (p := ⟨g, 4, none⟩) (.int .i64 (((t / 60) + o) % 60))
  obtain ⟨W5, hW5⟩ : ∃ W5, W5 = ((((w3.setCell ⟨g, 0, none⟩ (.int .i64 y)).setCell ⟨g, 1, none⟩ (.int .i64 m)).setCell ⟨g, 2, none⟩ (.int .i64 d)).setCell ⟨g, 3, none⟩ (.int .i64 (((t / 60) + o) / 60))).setCell ⟨g, 4, none⟩ (.int .i64 (((t / 60) + o) % 60)) := ⟨_, rfl⟩
  rw [← hW5] at hG hZ hB ⊢
  clear hW5 f0 f1 f2 f3 f4 f5 f6 f7 c0 c1 c2 c3 c4 c5 c6 c7 G3 Z3 B3
  have G5 := Lib.hid hG; have Z5 := Lib.hid hZ; have B5 := Lib.hid hB
  clear hG hZ hB
  obtain ⟨f0, f1, f2, f3, f4, f5, f6, f7⟩ := Z5.out.frees
  obtain ⟨c0, c1, c2, c3, c4, c5, c6, c7⟩ := Z5.out.all
  obtain ⟨e0, e1, e2, e3, e4, e5, e6, e7⟩ := G5.out.all
  go_wp2_with fail
  have hP := put8_lk Z5.out y m d (((t / 60) + o) / 60) (((t / 60) + o) % 60) (t % 60) nn o
  have hB := put8_below B5.out (Nat.le_refl _) y m d (((t / 60) + o) / 60) (((t / 60) + o) % 60) (t % 60) nn o
  obtain ⟨W9, hW9⟩ : ∃ W9, W9 = put8 W5 w.heap.size y m d (((t / 60) + o) / 60) (((t / 60) + o) % 60) (t % 60) nn o := ⟨_, rfl⟩
  rw [← hW9] at hP hB
  show bodyPost _ _ _ _ _ (put8 W5 w.heap.size y m d (((t / 60) + o) / 60) (((t / 60) + o) % 60) (t % 60) nn o)
  rw [← hW9]
  clear hW9
  obtain ⟨r0, r1, r2, r3, r4, r5, r6, r7⟩ := hP.all
  clear hP
  refine bodyPost_ret (v := .tuple #[.agg #[.int .i64 y, .int .i64 m, .int .i64 d, .int .i64 (((t / 60) + o) / 60), .int .i64 (((t / 60) + o) % 60), .int .i64 (t % 60), .int .i64 nn, .int .i64 o], .int .i64 0]) (by simp [results, Tryd.results48, go_sem, r0, r1, r2, r3, r4, r5, r6, r7]) rfl ⟨rfl, hB⟩

set_option maxRecDepth 100000 in
set_option maxHeartbeats 4000000 in
theorem lrof_e1n (n t nn o : Int) (w : World) (a : dyok n) (b : ckB t) (c : nnok nn) (g : ofok o) (ht : t ≠ 86400) (m1 : ¬ (t / 60) + o < 0) (m2 : ¬ (t / 60) + o ≥ 1440) (k : ¬ dyok (n)) :
    Calls Tryd.prog 48 #[.int .i64 n, .int .i64 t, .int .i64 nn, .int .i64 o] w fun e w' => e = .returned (.tuple #[.agg #[.int .i64 0, .int .i64 0, .int .i64 0, .int .i64 0, .int .i64 0, .int .i64 0, .int .i64 0, .int .i64 0], .int .i64 13]) ∧ Below w.heap.size w w' := by
  obtain ⟨W0, hW0⟩ : ∃ W0, W0 = w.alloc (.cells #[.int .i64 0, .int .i64 0, .int .i64 0, .int .i64 0, .int .i64 0, .int .i64 0, .int .i64 0, .int .i64 0] 35) := ⟨_, rfl⟩
  have B0 : Hid (Below w.heap.size w W0) := Lib.hid (by rw [hW0]; exact bel_new w _)
  have L0 : Lk 35 W0 w.heap.size lb0 := by rw [hW0]; exact lk_new _ _ lb0
  have P0 := Lib.hid L0
  have LT : Hid (w.heap.size < W0.heap.size) := Lib.hid L0.lt
  have hT := fun w => lrthere_any n w
  rw [decide_eq_true a] at hT
  have HT := Lib.hid hT; clear hT
  have hU := fun w => lrthere_any (n) w
  rw [decide_eq_false k] at hU
  have HU := Lib.hid hU; clear hU
  have n0 := a.1; have n1 := a.2
  have p1 : 0 ≤ (t / 60) + o := by omega
  unfold ckB at b
  unfold nnok at c
  unfold ofok at g
  obtain ⟨t0, t1⟩ := b
  obtain ⟨o0, o1⟩ := g
  have b1 : decide (t < 0) = false := decide_eq_false (by omega)
  have b2 : decide (86400 < t) = false := decide_eq_false (by omega)
  have b3 : decide (nn < 0) = false := decide_eq_false (by omega)
  have b4 : decide (999999999 < nn) = false := decide_eq_false (by omega)
  have b5 : decide (o < -1439) = false := decide_eq_false (by omega)
  have b6 : decide (1439 < o) = false := decide_eq_false (by omega)
  have b7 : (t == 86400) = false := by simpa using ht
  obtain ⟨q0, q1⟩ : 0 ≤ t / 60 ∧ t / 60 ≤ 1439 := by omega
  clear L0 a ht k
  go_enter Tryd.func48, Tryd.ntmps48
  go_upto_region 1 with fail
  rw [← hW0]; clear hW0
  go_upto_region 17 with (go_at_call 65; refine (HT.out _).mono ?_; rintro e w' ⟨rfl, rfl⟩)
  obtain ⟨W2, hW2⟩ : ∃ W2, W2 = W0.alloc (.cells #[.int .i64 0, .int .i64 0, .int .i64 0, .int .i64 0, .int .i64 0, .int .i64 (t % 60), .int .i64 nn, .int .i64 o] 35) := ⟨_, rfl⟩
  rw [← hW2]
  have B2 : Hid (Below w.heap.size w W2) := Lib.hid (by rw [hW2]; exact B0.out.alloc B0.out.size _)
  have Z2 : Hid (Lk 35 W2 w.heap.size lb0) := Lib.hid (by rw [hW2]; exact P0.out.keep (bel_new _ _))
  have G2 : Hid (Lk 35 W2 W0.heap.size ⟨0, 0, 0, 0, 0, (t % 60), nn, o⟩) := Lib.hid (by rw [hW2]; exact lk_new _ _ ⟨0, 0, 0, 0, 0, (t % 60), nn, o⟩)
  clear hW2
  obtain ⟨g, hg⟩ : ∃ g, g = W0.heap.size := ⟨_, rfl⟩
  rw [← hg] at G2 LT ⊢
  clear hg P0 B0
  obtain ⟨f0, f1, f2, f3, f4, f5, f6, f7⟩ := Z2.out.frees
  obtain ⟨c0, c1, c2, c3, c4, c5, c6, c7⟩ := Z2.out.all
  go_wp2_with (go_at_call 65; refine (HU.out _).mono ?_; rintro e w' ⟨rfl, rfl⟩)
  have hP := put8_lk Z2.out 0 0 0 0 0 0 0 0
  have hB := put8_below B2.out (Nat.le_refl _) 0 0 0 0 0 0 0 0
  obtain ⟨W9, hW9⟩ : ∃ W9, W9 = put8 W2 w.heap.size 0 0 0 0 0 0 0 0 := ⟨_, rfl⟩
  rw [← hW9] at hP hB
  show bodyPost _ _ _ _ _ (put8 W2 w.heap.size 0 0 0 0 0 0 0 0)
  rw [← hW9]
  clear hW9
  obtain ⟨r0, r1, r2, r3, r4, r5, r6, r7⟩ := hP.all
  clear hP
  refine bodyPost_ret (v := .tuple #[.agg #[.int .i64 0, .int .i64 0, .int .i64 0, .int .i64 0, .int .i64 0, .int .i64 0, .int .i64 0, .int .i64 0], .int .i64 13]) (by simp [results, Tryd.results48, go_sem, r0, r1, r2, r3, r4, r5, r6, r7]) rfl ⟨rfl, hB⟩

set_option maxRecDepth 100000 in
set_option maxHeartbeats 4000000 in
theorem lrof_e2y (n t nn o : Int) (w : World) (a : dyok n) (b : ckB t) (c : nnok nn) (g : ofok o) (ht : t ≠ 86400) (m1 : ¬ (t / 60) + o < 0) (m2 : (t / 60) + o ≥ 1440) {y m d : Int} (D : Dt (n + 1) y m d) :
    Calls Tryd.prog 48 #[.int .i64 n, .int .i64 t, .int .i64 nn, .int .i64 o] w fun e w' => e = .returned (.tuple #[.agg #[.int .i64 y, .int .i64 m, .int .i64 d, .int .i64 (((t / 60) + o - 1440) / 60), .int .i64 (((t / 60) + o - 1440) % 60), .int .i64 (t % 60), .int .i64 nn, .int .i64 o], .int .i64 0]) ∧ Below w.heap.size w w' := by
  obtain ⟨W0, hW0⟩ : ∃ W0, W0 = w.alloc (.cells #[.int .i64 0, .int .i64 0, .int .i64 0, .int .i64 0, .int .i64 0, .int .i64 0, .int .i64 0, .int .i64 0] 35) := ⟨_, rfl⟩
  have B0 : Hid (Below w.heap.size w W0) := Lib.hid (by rw [hW0]; exact bel_new w _)
  have L0 : Lk 35 W0 w.heap.size lb0 := by rw [hW0]; exact lk_new _ _ lb0
  have P0 := Lib.hid L0
  have LT : Hid (w.heap.size < W0.heap.size) := Lib.hid L0.lt
  have hT := fun w => lrthere_any n w
  rw [decide_eq_true a] at hT
  have HT := Lib.hid hT; clear hT
  have hU := fun w => lrthere_any (n + 1) w
  rw [decide_eq_true (show dyok (n + 1) from D.range)] at hU
  have HU := Lib.hid hU; clear hU
  have HX := Lib.hid (fun w => rdate_some (n + 1) y m d w D)
  have n0 := a.1; have n1 := a.2
  have p1 : 0 ≤ (t / 60) + o - 1440 := by omega
  unfold ckB at b
  unfold nnok at c
  unfold ofok at g
  obtain ⟨t0, t1⟩ := b
  obtain ⟨o0, o1⟩ := g
  have b1 : decide (t < 0) = false := decide_eq_false (by omega)
  have b2 : decide (86400 < t) = false := decide_eq_false (by omega)
  have b3 : decide (nn < 0) = false := decide_eq_false (by omega)
  have b4 : decide (999999999 < nn) = false := decide_eq_false (by omega)
  have b5 : decide (o < -1439) = false := decide_eq_false (by omega)
  have b6 : decide (1439 < o) = false := decide_eq_false (by omega)
  have b7 : (t == 86400) = false := by simpa using ht
  obtain ⟨q0, q1⟩ : 0 ≤ t / 60 ∧ t / 60 ≤ 1439 := by omega
  clear L0 a ht D
  go_enter Tryd.func48, Tryd.ntmps48
  go_upto_region 1 with fail
  rw [← hW0]; clear hW0
  go_upto_region 17 with (go_at_call 65; refine (HT.out _).mono ?_; rintro e w' ⟨rfl, rfl⟩)
  obtain ⟨W2, hW2⟩ : ∃ W2, W2 = W0.alloc (.cells #[.int .i64 0, .int .i64 0, .int .i64 0, .int .i64 0, .int .i64 0, .int .i64 (t % 60), .int .i64 nn, .int .i64 o] 35) := ⟨_, rfl⟩
  rw [← hW2]
  have B2 : Hid (Below w.heap.size w W2) := Lib.hid (by rw [hW2]; exact B0.out.alloc B0.out.size _)
  have Z2 : Hid (Lk 35 W2 w.heap.size lb0) := Lib.hid (by rw [hW2]; exact P0.out.keep (bel_new _ _))
  have G2 : Hid (Lk 35 W2 W0.heap.size ⟨0, 0, 0, 0, 0, (t % 60), nn, o⟩) := Lib.hid (by rw [hW2]; exact lk_new _ _ ⟨0, 0, 0, 0, 0, (t % 60), nn, o⟩)
  clear hW2
  obtain ⟨g, hg⟩ : ∃ g, g = W0.heap.size := ⟨_, rfl⟩
  rw [← hg] at G2 LT ⊢
  clear hg P0 B0
  go_wp2_with (go_at_call 65; refine (HU.out _).mono ?_; rintro e w' ⟨rfl, rfl⟩)
  refine (HX.out _).mono ?_
  rintro e w3 ⟨rfl, hb⟩
  have Z3 := Lib.hid (Z2.out.keep hb)
  have G3 := Lib.hid (G2.out.keep hb)
  have B3 := Lib.hid (B2.out.trans (hb.mono B2.out.size))
  clear hb Z2 G2 B2
  obtain ⟨f0, f1, f2, f3, f4, f5, f6, f7⟩ := G3.out.frees
  obtain ⟨c0, c1, c2, c3, c4, c5, c6, c7⟩ := G3.out.all
  go_upto_region 22 with fail
  have g9 : g ≠ w.heap.size := by have := LT.out; omega
  have g8 : w.heap.size ≤ g := by have := LT.out; omega
  have hG := ((((G3.out.s0 y).s1 m).s2 d).s3 (((t / 60) + o - 1440) / 60)).s4 (((t / 60) + o - 1440) % 60)
  have hZ := ((((Z3.out.far2 g9 0 (.int .i64 y)).far2 g9 1 (.int .i64 m)).far2 g9 2 (.int .i64 d)).far2 g9 3 (.int .i64 (((t / 60) + o - 1440) / 60))).far2 g9 4 (.int .i64 (((t / 60) + o - 1440) % 60))
  have hB := ((((B3.out.setCell g8 (p := ⟨g, 0, none⟩) (.int .i64 y)).setCell g8 (p := ⟨g, 1, none⟩) (.int .i64 m)).setCell g8 (p := ⟨g, 2, none⟩) (.int .i64 d)).setCell g8 (p := ⟨g, 3, none⟩) (.int .i64 (((t / 60) + o - 1440) / 60))).setCell g8 (p := ⟨g, 4, none⟩) (.int .i64 (((t / 60) + o - 1440) % 60))
  obtain ⟨W5, hW5⟩ : ∃ W5, W5 = ((((w3.setCell ⟨g, 0, none⟩ (.int .i64 y)).setCell ⟨g, 1, none⟩ (.int .i64 m)).setCell ⟨g, 2, none⟩ (.int .i64 d)).setCell ⟨g, 3, none⟩ (.int .i64 (((t / 60) + o - 1440) / 60))).setCell ⟨g, 4, none⟩ (.int .i64 (((t / 60) + o - 1440) % 60)) := ⟨_, rfl⟩
  rw [← hW5] at hG hZ hB ⊢
  clear hW5 f0 f1 f2 f3 f4 f5 f6 f7 c0 c1 c2 c3 c4 c5 c6 c7 G3 Z3 B3
  have G5 := Lib.hid hG; have Z5 := Lib.hid hZ; have B5 := Lib.hid hB
  clear hG hZ hB
  obtain ⟨f0, f1, f2, f3, f4, f5, f6, f7⟩ := Z5.out.frees
  obtain ⟨c0, c1, c2, c3, c4, c5, c6, c7⟩ := Z5.out.all
  obtain ⟨e0, e1, e2, e3, e4, e5, e6, e7⟩ := G5.out.all
  go_wp2_with fail
  have hP := put8_lk Z5.out y m d (((t / 60) + o - 1440) / 60) (((t / 60) + o - 1440) % 60) (t % 60) nn o
  have hB := put8_below B5.out (Nat.le_refl _) y m d (((t / 60) + o - 1440) / 60) (((t / 60) + o - 1440) % 60) (t % 60) nn o
  obtain ⟨W9, hW9⟩ : ∃ W9, W9 = put8 W5 w.heap.size y m d (((t / 60) + o - 1440) / 60) (((t / 60) + o - 1440) % 60) (t % 60) nn o := ⟨_, rfl⟩
  rw [← hW9] at hP hB
  show bodyPost _ _ _ _ _ (put8 W5 w.heap.size y m d (((t / 60) + o - 1440) / 60) (((t / 60) + o - 1440) % 60) (t % 60) nn o)
  rw [← hW9]
  clear hW9
  obtain ⟨r0, r1, r2, r3, r4, r5, r6, r7⟩ := hP.all
  clear hP
  refine bodyPost_ret (v := .tuple #[.agg #[.int .i64 y, .int .i64 m, .int .i64 d, .int .i64 (((t / 60) + o - 1440) / 60), .int .i64 (((t / 60) + o - 1440) % 60), .int .i64 (t % 60), .int .i64 nn, .int .i64 o], .int .i64 0]) (by simp [results, Tryd.results48, go_sem, r0, r1, r2, r3, r4, r5, r6, r7]) rfl ⟨rfl, hB⟩

set_option maxRecDepth 100000 in
set_option maxHeartbeats 4000000 in
theorem lrof_e2n (n t nn o : Int) (w : World) (a : dyok n) (b : ckB t) (c : nnok nn) (g : ofok o) (ht : t ≠ 86400) (m1 : ¬ (t / 60) + o < 0) (m2 : (t / 60) + o ≥ 1440) (k : ¬ dyok (n + 1)) :
    Calls Tryd.prog 48 #[.int .i64 n, .int .i64 t, .int .i64 nn, .int .i64 o] w fun e w' => e = .returned (.tuple #[.agg #[.int .i64 0, .int .i64 0, .int .i64 0, .int .i64 0, .int .i64 0, .int .i64 0, .int .i64 0, .int .i64 0], .int .i64 13]) ∧ Below w.heap.size w w' := by
  obtain ⟨W0, hW0⟩ : ∃ W0, W0 = w.alloc (.cells #[.int .i64 0, .int .i64 0, .int .i64 0, .int .i64 0, .int .i64 0, .int .i64 0, .int .i64 0, .int .i64 0] 35) := ⟨_, rfl⟩
  have B0 : Hid (Below w.heap.size w W0) := Lib.hid (by rw [hW0]; exact bel_new w _)
  have L0 : Lk 35 W0 w.heap.size lb0 := by rw [hW0]; exact lk_new _ _ lb0
  have P0 := Lib.hid L0
  have LT : Hid (w.heap.size < W0.heap.size) := Lib.hid L0.lt
  have hT := fun w => lrthere_any n w
  rw [decide_eq_true a] at hT
  have HT := Lib.hid hT; clear hT
  have hU := fun w => lrthere_any (n + 1) w
  rw [decide_eq_false k] at hU
  have HU := Lib.hid hU; clear hU
  have n0 := a.1; have n1 := a.2
  have p1 : 0 ≤ (t / 60) + o - 1440 := by omega
  unfold ckB at b
  unfold nnok at c
  unfold ofok at g
  obtain ⟨t0, t1⟩ := b
  obtain ⟨o0, o1⟩ := g
  have b1 : decide (t < 0) = false := decide_eq_false (by omega)
  have b2 : decide (86400 < t) = false := decide_eq_false (by omega)
  have b3 : decide (nn < 0) = false := decide_eq_false (by omega)
  have b4 : decide (999999999 < nn) = false := decide_eq_false (by omega)
  have b5 : decide (o < -1439) = false := decide_eq_false (by omega)
  have b6 : decide (1439 < o) = false := decide_eq_false (by omega)
  have b7 : (t == 86400) = false := by simpa using ht
  obtain ⟨q0, q1⟩ : 0 ≤ t / 60 ∧ t / 60 ≤ 1439 := by omega
  clear L0 a ht k
  go_enter Tryd.func48, Tryd.ntmps48
  go_upto_region 1 with fail
  rw [← hW0]; clear hW0
  go_upto_region 17 with (go_at_call 65; refine (HT.out _).mono ?_; rintro e w' ⟨rfl, rfl⟩)
  obtain ⟨W2, hW2⟩ : ∃ W2, W2 = W0.alloc (.cells #[.int .i64 0, .int .i64 0, .int .i64 0, .int .i64 0, .int .i64 0, .int .i64 (t % 60), .int .i64 nn, .int .i64 o] 35) := ⟨_, rfl⟩
  rw [← hW2]
  have B2 : Hid (Below w.heap.size w W2) := Lib.hid (by rw [hW2]; exact B0.out.alloc B0.out.size _)
  have Z2 : Hid (Lk 35 W2 w.heap.size lb0) := Lib.hid (by rw [hW2]; exact P0.out.keep (bel_new _ _))
  have G2 : Hid (Lk 35 W2 W0.heap.size ⟨0, 0, 0, 0, 0, (t % 60), nn, o⟩) := Lib.hid (by rw [hW2]; exact lk_new _ _ ⟨0, 0, 0, 0, 0, (t % 60), nn, o⟩)
  clear hW2
  obtain ⟨g, hg⟩ : ∃ g, g = W0.heap.size := ⟨_, rfl⟩
  rw [← hg] at G2 LT ⊢
  clear hg P0 B0
  obtain ⟨f0, f1, f2, f3, f4, f5, f6, f7⟩ := Z2.out.frees
  obtain ⟨c0, c1, c2, c3, c4, c5, c6, c7⟩ := Z2.out.all
  go_wp2_with (go_at_call 65; refine (HU.out _).mono ?_; rintro e w' ⟨rfl, rfl⟩)
  have hP := put8_lk Z2.out 0 0 0 0 0 0 0 0
  have hB := put8_below B2.out (Nat.le_refl _) 0 0 0 0 0 0 0 0
  obtain ⟨W9, hW9⟩ : ∃ W9, W9 = put8 W2 w.heap.size 0 0 0 0 0 0 0 0 := ⟨_, rfl⟩
  rw [← hW9] at hP hB
  show bodyPost _ _ _ _ _ (put8 W2 w.heap.size 0 0 0 0 0 0 0 0)
  rw [← hW9]
  clear hW9
  obtain ⟨r0, r1, r2, r3, r4, r5, r6, r7⟩ := hP.all
  clear hP
  refine bodyPost_ret (v := .tuple #[.agg #[.int .i64 0, .int .i64 0, .int .i64 0, .int .i64 0, .int .i64 0, .int .i64 0, .int .i64 0, .int .i64 0], .int .i64 13]) (by simp [results, Tryd.results48, go_sem, r0, r1, r2, r3, r4, r5, r6, r7]) rfl ⟨rfl, hB⟩

end Go.Proofs.YtiamggjebaabkaaDoor
