/- A label stored into a block; package label: Of, At, UTC. -/
import Derived.Test.YtiamggjebaabkaaDoorLabB
namespace Go.Proofs.YtiamggjebaabkaaDoor
open Go.RowKit
set_option linter.unusedVariables false

theorem Lk.frees {T : TypeId} {w : World} {p : Nat} {l : Lb} (h : Lk T w p l) : w.frozen? ⟨p, 0, none⟩ = false ∧ w.frozen? ⟨p, 1, none⟩ = false ∧ w.frozen? ⟨p, 2, none⟩ = false ∧ w.frozen? ⟨p, 3, none⟩ = false ∧ w.frozen? ⟨p, 4, none⟩ = false ∧ w.frozen? ⟨p, 5, none⟩ = false ∧ w.frozen? ⟨p, 6, none⟩ = false ∧ w.frozen? ⟨p, 7, none⟩ = false :=
  ⟨h.free 0, h.free 1, h.free 2, h.free 3, h.free 4, h.free 5, h.free 6, h.free 7⟩
abbrev put8 (W : World) (q : Nat) (y m d h i s n o : Int) : World := (((((((W.setCell ⟨q, 0, none⟩ (.int .i64 y)).setCell ⟨q, 1, none⟩ (.int .i64 m)).setCell ⟨q, 2, none⟩ (.int .i64 d)).setCell ⟨q, 3, none⟩ (.int .i64 h)).setCell ⟨q, 4, none⟩ (.int .i64 i)).setCell ⟨q, 5, none⟩ (.int .i64 s)).setCell ⟨q, 6, none⟩ (.int .i64 n)).setCell ⟨q, 7, none⟩ (.int .i64 o)
theorem Lk.s0 {T : TypeId} {w : World} {p : Nat} {l : Lb} (h : Lk T w p l) (v : Int) : Lk T (w.setCell ⟨p, 0, none⟩ (.int .i64 v)) p ⟨v, l.m, l.d, l.h, l.i, l.s, l.n, l.o⟩ := by
  have e := bk_set h 0 (.int .i64 v)
  unfold Lk
  rw [e]; rfl
theorem Lk.s1 {T : TypeId} {w : World} {p : Nat} {l : Lb} (h : Lk T w p l) (v : Int) : Lk T (w.setCell ⟨p, 1, none⟩ (.int .i64 v)) p ⟨l.y, v, l.d, l.h, l.i, l.s, l.n, l.o⟩ := by
  have e := bk_set h 1 (.int .i64 v)
  unfold Lk
  rw [e]; rfl
theorem Lk.s2 {T : TypeId} {w : World} {p : Nat} {l : Lb} (h : Lk T w p l) (v : Int) : Lk T (w.setCell ⟨p, 2, none⟩ (.int .i64 v)) p ⟨l.y, l.m, v, l.h, l.i, l.s, l.n, l.o⟩ := by
  have e := bk_set h 2 (.int .i64 v)
  unfold Lk
  rw [e]; rfl
theorem Lk.s3 {T : TypeId} {w : World} {p : Nat} {l : Lb} (h : Lk T w p l) (v : Int) : Lk T (w.setCell ⟨p, 3, none⟩ (.int .i64 v)) p ⟨l.y, l.m, l.d, v, l.i, l.s, l.n, l.o⟩ := by
  have e := bk_set h 3 (.int .i64 v)
  unfold Lk
  rw [e]; rfl
theorem Lk.s4 {T : TypeId} {w : World} {p : Nat} {l : Lb} (h : Lk T w p l) (v : Int) : Lk T (w.setCell ⟨p, 4, none⟩ (.int .i64 v)) p ⟨l.y, l.m, l.d, l.h, v, l.s, l.n, l.o⟩ := by
  have e := bk_set h 4 (.int .i64 v)
  unfold Lk
  rw [e]; rfl
theorem Lk.s5 {T : TypeId} {w : World} {p : Nat} {l : Lb} (h : Lk T w p l) (v : Int) : Lk T (w.setCell ⟨p, 5, none⟩ (.int .i64 v)) p ⟨l.y, l.m, l.d, l.h, l.i, v, l.n, l.o⟩ := by
  have e := bk_set h 5 (.int .i64 v)
  unfold Lk
  rw [e]; rfl
theorem Lk.s6 {T : TypeId} {w : World} {p : Nat} {l : Lb} (h : Lk T w p l) (v : Int) : Lk T (w.setCell ⟨p, 6, none⟩ (.int .i64 v)) p ⟨l.y, l.m, l.d, l.h, l.i, l.s, v, l.o⟩ := by
  have e := bk_set h 6 (.int .i64 v)
  unfold Lk
  rw [e]; rfl
theorem Lk.s7 {T : TypeId} {w : World} {p : Nat} {l : Lb} (h : Lk T w p l) (v : Int) : Lk T (w.setCell ⟨p, 7, none⟩ (.int .i64 v)) p ⟨l.y, l.m, l.d, l.h, l.i, l.s, l.n, v⟩ := by
  have e := bk_set h 7 (.int .i64 v)
  unfold Lk
  rw [e]; rfl
theorem put8_lk {T : TypeId} {W : World} {q : Nat} {l : Lb} (g : Lk T W q l) (y m d h i s n o : Int) : Lk T (put8 W q y m d h i s n o) q ⟨y, m, d, h, i, s, n, o⟩ :=
  ((((((((g.s0 y).s1 m).s2 d).s3 h).s4 i).s5 s).s6 n).s7 o)
theorem put8_below {B : Nat} {w W : World} {q : Nat} (b : Below B w W) (hq : B ≤ q) (y m d h i s n o : Int) : Below B w (put8 W q y m d h i s n o) :=
  ((((((((b.setCell hq _).setCell hq _).setCell hq _).setCell hq _).setCell hq _).setCell hq _).setCell hq _).setCell hq _)

set_option maxRecDepth 100000 in
set_option maxHeartbeats 2000000 in
theorem lof_day (n t nn o : Int) (w : World) (he : Ends w) (a : ¬ dyok n) :
    Calls Tryd.prog 47 #[.int .i64 n, .int .i64 t, .int .i64 nn, .int .i64 o] w fun e w' => e = .returned (.tuple #[.agg lb0.cells, ev 13]) ∧ Below w.heap.size w w' := by
  show Calls _ _ _ _ fun e w' => e = .returned (.tuple #[.agg #[.int .i64 0, .int .i64 0, .int .i64 0, .int .i64 0, .int .i64 0, .int .i64 0, .int .i64 0, .int .i64 0], ev 13]) ∧ _
  obtain ⟨W0, hW0⟩ : ∃ W0, W0 = w.alloc (.cells #[.int .i64 0, .int .i64 0, .int .i64 0, .int .i64 0, .int .i64 0, .int .i64 0, .int .i64 0, .int .i64 0] 26) := ⟨_, rfl⟩
  have B0 : Hid (Below w.heap.size w W0) := Lib.hid (by rw [hW0]; exact bel_new w _)
  have L0 : Lk 26 W0 w.heap.size lb0 := by rw [hW0]; exact lk_new _ _ lb0
  obtain ⟨f0, f1, f2, f3, f4, f5, f6, f7⟩ := L0.frees
  obtain ⟨c0, c1, c2, c3, c4, c5, c6, c7⟩ := L0.all
  have P0 := Lib.hid L0
  have E0 := Lib.hid (he.below B0.out)
  clear L0 he
  have q0 := fun op t W x k => guard_ev op t W x k
  have q2 := fun W k => neq_ev W k
  have hD := fun w => isday_any n w
  rw [decide_eq_false a] at hD
  have HD := Lib.hid hD; clear hD
  rw [ev_pos (k := 13) (by decide)]
  go_enter Tryd.func47, Tryd.ntmps47
  go_upto_region 1 with fail
  rw [← hW0]; clear hW0
  go_wp2_with (first
    | (go_at_call 61; refine (HD.out _).mono ?_; rintro e w' ⟨rfl, rfl⟩)
    | (go_at_call 71; refine (HC.out _).mono ?_; rintro e w' ⟨rfl, rfl⟩)
    | (go_at_call 58; refine (HN.out _).mono ?_; rintro e w' ⟨rfl, rfl⟩)
    | (go_at_call 59; refine (HF.out _).mono ?_; rintro e w' ⟨rfl, rfl⟩)
    | (go_at_call 60; refine (HS.out _).mono ?_; rintro e w' ⟨rfl, rfl⟩)
    | (go_at_call 72; refine (HX.out _).mono ?_; rintro e w' ⟨rfl, rfl⟩))
  have hP := put8_lk P0.out 0 0 0 0 0 0 0 0
  have hB := put8_below B0.out (Nat.le_refl _) 0 0 0 0 0 0 0 0
  obtain ⟨W9, hW9⟩ : ∃ W9, W9 = put8 W0 w.heap.size 0 0 0 0 0 0 0 0 := ⟨_, rfl⟩
  rw [← hW9] at hP hB
  show bodyPost _ _ _ _ _ (put8 W0 w.heap.size 0 0 0 0 0 0 0 0)
  rw [← hW9]
  clear hW9
  obtain ⟨r0, r1, r2, r3, r4, r5, r6, r7⟩ := hP.all
  clear hP
  refine bodyPost_ret (v := .tuple #[.agg #[.int .i64 0, .int .i64 0, .int .i64 0, .int .i64 0, .int .i64 0, .int .i64 0, .int .i64 0, .int .i64 0], .iface 80 (.int .i64 13)]) (by simp [results, Tryd.results47, go_sem, r0, r1, r2, r3, r4, r5, r6, r7]) rfl ⟨rfl, hB⟩

set_option maxRecDepth 100000 in
set_option maxHeartbeats 2000000 in
theorem lof_clock (n t nn o : Int) (w : World) (he : Ends w) (a : dyok n) (b : ¬ ckB t) :
    Calls Tryd.prog 47 #[.int .i64 n, .int .i64 t, .int .i64 nn, .int .i64 o] w fun e w' => e = .returned (.tuple #[.agg lb0.cells, ev 1]) ∧ Below w.heap.size w w' := by
  show Calls _ _ _ _ fun e w' => e = .returned (.tuple #[.agg #[.int .i64 0, .int .i64 0, .int .i64 0, .int .i64 0, .int .i64 0, .int .i64 0, .int .i64 0, .int .i64 0], ev 1]) ∧ _
  obtain ⟨W0, hW0⟩ : ∃ W0, W0 = w.alloc (.cells #[.int .i64 0, .int .i64 0, .int .i64 0, .int .i64 0, .int .i64 0, .int .i64 0, .int .i64 0, .int .i64 0] 26) := ⟨_, rfl⟩
  have B0 : Hid (Below w.heap.size w W0) := Lib.hid (by rw [hW0]; exact bel_new w _)
  have L0 : Lk 26 W0 w.heap.size lb0 := by rw [hW0]; exact lk_new _ _ lb0
  obtain ⟨f0, f1, f2, f3, f4, f5, f6, f7⟩ := L0.frees
  obtain ⟨c0, c1, c2, c3, c4, c5, c6, c7⟩ := L0.all
  have P0 := Lib.hid L0
  have E0 := Lib.hid (he.below B0.out)
  clear L0 he
  have q0 := fun op t W x k => guard_ev op t W x k
  have q2 := fun W k => neq_ev W k
  have hD := fun w => isday_any n w
  rw [decide_eq_true a] at hD
  have HD := Lib.hid hD; clear hD
  have HC := Lib.hid (fun w => clock_no t w b)
  rw [ev_pos (k := 1) (by decide)]
  go_enter Tryd.func47, Tryd.ntmps47
  go_upto_region 1 with fail
  rw [← hW0]; clear hW0
  go_wp2_with (first
    | (go_at_call 61; refine (HD.out _).mono ?_; rintro e w' ⟨rfl, rfl⟩)
    | (go_at_call 71; refine (HC.out _).mono ?_; rintro e w' ⟨rfl, rfl⟩)
    | (go_at_call 58; refine (HN.out _).mono ?_; rintro e w' ⟨rfl, rfl⟩)
    | (go_at_call 59; refine (HF.out _).mono ?_; rintro e w' ⟨rfl, rfl⟩)
    | (go_at_call 60; refine (HS.out _).mono ?_; rintro e w' ⟨rfl, rfl⟩)
    | (go_at_call 72; refine (HX.out _).mono ?_; rintro e w' ⟨rfl, rfl⟩))
  have hP := put8_lk P0.out 0 0 0 0 0 0 0 0
  have hB := put8_below B0.out (Nat.le_refl _) 0 0 0 0 0 0 0 0
  obtain ⟨W9, hW9⟩ : ∃ W9, W9 = put8 W0 w.heap.size 0 0 0 0 0 0 0 0 := ⟨_, rfl⟩
  rw [← hW9] at hP hB
  show bodyPost _ _ _ _ _ (put8 W0 w.heap.size 0 0 0 0 0 0 0 0)
  rw [← hW9]
  clear hW9
  obtain ⟨r0, r1, r2, r3, r4, r5, r6, r7⟩ := hP.all
  clear hP
  refine bodyPost_ret (v := .tuple #[.agg #[.int .i64 0, .int .i64 0, .int .i64 0, .int .i64 0, .int .i64 0, .int .i64 0, .int .i64 0, .int .i64 0], .iface 80 (.int .i64 1)]) (by simp [results, Tryd.results47, go_sem, ev, r0, r1, r2, r3, r4, r5, r6, r7]) rfl ⟨rfl, hB⟩

set_option maxRecDepth 100000 in
set_option maxHeartbeats 2000000 in
theorem lof_nano (n t nn o : Int) (w : World) (he : Ends w) (a : dyok n) (b : ckB t) (c : ¬ nnok nn) :
    Calls Tryd.prog 47 #[.int .i64 n, .int .i64 t, .int .i64 nn, .int .i64 o] w fun e w' => e = .returned (.tuple #[.agg lb0.cells, ev 1]) ∧ Below w.heap.size w w' := by
  show Calls _ _ _ _ fun e w' => e = .returned (.tuple #[.agg #[.int .i64 0, .int .i64 0, .int .i64 0, .int .i64 0, .int .i64 0, .int .i64 0, .int .i64 0, .int .i64 0], ev 1]) ∧ _
  obtain ⟨W0, hW0⟩ : ∃ W0, W0 = w.alloc (.cells #[.int .i64 0, .int .i64 0, .int .i64 0, .int .i64 0, .int .i64 0, .int .i64 0, .int .i64 0, .int .i64 0] 26) := ⟨_, rfl⟩
  have B0 : Hid (Below w.heap.size w W0) := Lib.hid (by rw [hW0]; exact bel_new w _)
  have L0 : Lk 26 W0 w.heap.size lb0 := by rw [hW0]; exact lk_new _ _ lb0
  obtain ⟨f0, f1, f2, f3, f4, f5, f6, f7⟩ := L0.frees
  obtain ⟨c0, c1, c2, c3, c4, c5, c6, c7⟩ := L0.all
  have P0 := Lib.hid L0
  have E0 := Lib.hid (he.below B0.out)
  clear L0 he
  have q0 := fun op t W x k => guard_ev op t W x k
  have q2 := fun W k => neq_ev W k
  have hD := fun w => isday_any n w
  rw [decide_eq_true a] at hD
  have HD := Lib.hid hD; clear hD
  have hc : 0 ≤ cmn t ∧ cmn t ≤ 1439 := by have := b; unfold ckB at this; unfold cmn; split <;> omega
  obtain ⟨h0, h1⟩ : 0 ≤ cmn t / 60 ∧ cmn t / 60 ≤ 23 := by omega
  obtain ⟨i0, i1⟩ : 0 ≤ cmn t % 60 ∧ cmn t % 60 ≤ 59 := by omega
  have hC := fun w => clock_some t w b
  have HC := Lib.hid hC; clear hC hc
  generalize cmn t / 60 = H at *
  generalize cmn t % 60 = I at *
  generalize crs t = R at *
  have hN := fun w => isnano_any nn w
  rw [decide_eq_false c] at hN
  have HN := Lib.hid hN; clear hN
  rw [ev_pos (k := 1) (by decide)]
  go_enter Tryd.func47, Tryd.ntmps47
  go_upto_region 1 with fail
  rw [← hW0]; clear hW0
  go_wp2_with (first
    | (go_at_call 61; refine (HD.out _).mono ?_; rintro e w' ⟨rfl, rfl⟩)
    | (go_at_call 71; refine (HC.out _).mono ?_; rintro e w' ⟨rfl, rfl⟩)
    | (go_at_call 58; refine (HN.out _).mono ?_; rintro e w' ⟨rfl, rfl⟩)
    | (go_at_call 59; refine (HF.out _).mono ?_; rintro e w' ⟨rfl, rfl⟩)
    | (go_at_call 60; refine (HS.out _).mono ?_; rintro e w' ⟨rfl, rfl⟩)
    | (go_at_call 72; refine (HX.out _).mono ?_; rintro e w' ⟨rfl, rfl⟩))
  have hP := put8_lk P0.out 0 0 0 0 0 0 0 0
  have hB := put8_below B0.out (Nat.le_refl _) 0 0 0 0 0 0 0 0
  obtain ⟨W9, hW9⟩ : ∃ W9, W9 = put8 W0 w.heap.size 0 0 0 0 0 0 0 0 := ⟨_, rfl⟩
  rw [← hW9] at hP hB
  show bodyPost _ _ _ _ _ (put8 W0 w.heap.size 0 0 0 0 0 0 0 0)
  rw [← hW9]
  clear hW9
  obtain ⟨r0, r1, r2, r3, r4, r5, r6, r7⟩ := hP.all
  clear hP
  refine bodyPost_ret (v := .tuple #[.agg #[.int .i64 0, .int .i64 0, .int .i64 0, .int .i64 0, .int .i64 0, .int .i64 0, .int .i64 0, .int .i64 0], .iface 80 (.int .i64 1)]) (by simp [results, Tryd.results47, go_sem, r0, r1, r2, r3, r4, r5, r6, r7]) rfl ⟨rfl, hB⟩

set_option maxRecDepth 100000 in
set_option maxHeartbeats 2000000 in
theorem lof_offset (n t nn o : Int) (w : World) (he : Ends w) (a : dyok n) (b : ckB t) (c : nnok nn) (g : ¬ ofok o) :
    Calls Tryd.prog 47 #[.int .i64 n, .int .i64 t, .int .i64 nn, .int .i64 o] w fun e w' => e = .returned (.tuple #[.agg lb0.cells, ev 1]) ∧ Below w.heap.size w w' := by
  show Calls _ _ _ _ fun e w' => e = .returned (.tuple #[.agg #[.int .i64 0, .int .i64 0, .int .i64 0, .int .i64 0, .int .i64 0, .int .i64 0, .int .i64 0, .int .i64 0], ev 1]) ∧ _
  obtain ⟨W0, hW0⟩ : ∃ W0, W0 = w.alloc (.cells #[.int .i64 0, .int .i64 0, .int .i64 0, .int .i64 0, .int .i64 0, .int .i64 0, .int .i64 0, .int .i64 0] 26) := ⟨_, rfl⟩
  have B0 : Hid (Below w.heap.size w W0) := Lib.hid (by rw [hW0]; exact bel_new w _)
  have L0 : Lk 26 W0 w.heap.size lb0 := by rw [hW0]; exact lk_new _ _ lb0
  obtain ⟨f0, f1, f2, f3, f4, f5, f6, f7⟩ := L0.frees
  obtain ⟨c0, c1, c2, c3, c4, c5, c6, c7⟩ := L0.all
  have P0 := Lib.hid L0
  have E0 := Lib.hid (he.below B0.out)
  clear L0 he
  have q0 := fun op t W x k => guard_ev op t W x k
  have q2 := fun W k => neq_ev W k
  have hD := fun w => isday_any n w
  rw [decide_eq_true a] at hD
  have HD := Lib.hid hD; clear hD
  have hc : 0 ≤ cmn t ∧ cmn t ≤ 1439 := by have := b; unfold ckB at this; unfold cmn; split <;> omega
  obtain ⟨h0, h1⟩ : 0 ≤ cmn t / 60 ∧ cmn t / 60 ≤ 23 := by omega
  obtain ⟨i0, i1⟩ : 0 ≤ cmn t % 60 ∧ cmn t % 60 ≤ 59 := by omega
  have hC := fun w => clock_some t w b
  have HC := Lib.hid hC; clear hC hc
  generalize cmn t / 60 = H at *
  generalize cmn t % 60 = I at *
  generalize crs t = R at *
  have hN := fun w => isnano_any nn w
  rw [decide_eq_true c] at hN
  have HN := Lib.hid hN; clear hN
  have hF := fun w => isoffset_any o w
  rw [decide_eq_false g] at hF
  have HF := Lib.hid hF; clear hF
  rw [ev_pos (k := 1) (by decide)]
  go_enter Tryd.func47, Tryd.ntmps47
  go_upto_region 1 with fail
  rw [← hW0]; clear hW0
  go_wp2_with (first
    | (go_at_call 61; refine (HD.out _).mono ?_; rintro e w' ⟨rfl, rfl⟩)
    | (go_at_call 71; refine (HC.out _).mono ?_; rintro e w' ⟨rfl, rfl⟩)
    | (go_at_call 58; refine (HN.out _).mono ?_; rintro e w' ⟨rfl, rfl⟩)
    | (go_at_call 59; refine (HF.out _).mono ?_; rintro e w' ⟨rfl, rfl⟩)
    | (go_at_call 60; refine (HS.out _).mono ?_; rintro e w' ⟨rfl, rfl⟩)
    | (go_at_call 72; refine (HX.out _).mono ?_; rintro e w' ⟨rfl, rfl⟩))
  have hP := put8_lk P0.out 0 0 0 0 0 0 0 0
  have hB := put8_below B0.out (Nat.le_refl _) 0 0 0 0 0 0 0 0
  obtain ⟨W9, hW9⟩ : ∃ W9, W9 = put8 W0 w.heap.size 0 0 0 0 0 0 0 0 := ⟨_, rfl⟩
  rw [← hW9] at hP hB
  show bodyPost _ _ _ _ _ (put8 W0 w.heap.size 0 0 0 0 0 0 0 0)
  rw [← hW9]
  clear hW9
  obtain ⟨r0, r1, r2, r3, r4, r5, r6, r7⟩ := hP.all
  clear hP
  refine bodyPost_ret (v := .tuple #[.agg #[.int .i64 0, .int .i64 0, .int .i64 0, .int .i64 0, .int .i64 0, .int .i64 0, .int .i64 0, .int .i64 0], .iface 80 (.int .i64 1)]) (by simp [results, Tryd.results47, go_sem, r0, r1, r2, r3, r4, r5, r6, r7]) rfl ⟨rfl, hB⟩

set_option maxRecDepth 100000 in
set_option maxHeartbeats 2000000 in
theorem lof_far (n t nn o : Int) (w : World) (he : Ends w) (a : dyok n) (b : ckB t) (c : nnok nn) (g : ofok o) (k : ¬ dyok (shn n t o)) :
    Calls Tryd.prog 47 #[.int .i64 n, .int .i64 t, .int .i64 nn, .int .i64 o] w fun e w' => e = .returned (.tuple #[.agg lb0.cells, ev 13]) ∧ Below w.heap.size w w' := by
  show Calls _ _ _ _ fun e w' => e = .returned (.tuple #[.agg #[.int .i64 0, .int .i64 0, .int .i64 0, .int .i64 0, .int .i64 0, .int .i64 0, .int .i64 0, .int .i64 0], ev 13]) ∧ _
  obtain ⟨W0, hW0⟩ : ∃ W0, W0 = w.alloc (.cells #[.int .i64 0, .int .i64 0, .int .i64 0, .int .i64 0, .int .i64 0, .int .i64 0, .int .i64 0, .int .i64 0] 26) := ⟨_, rfl⟩
  have B0 : Hid (Below w.heap.size w W0) := Lib.hid (by rw [hW0]; exact bel_new w _)
  have L0 : Lk 26 W0 w.heap.size lb0 := by rw [hW0]; exact lk_new _ _ lb0
  obtain ⟨f0, f1, f2, f3, f4, f5, f6, f7⟩ := L0.frees
  obtain ⟨c0, c1, c2, c3, c4, c5, c6, c7⟩ := L0.all
  have P0 := Lib.hid L0
  have E0 := Lib.hid (he.below B0.out)
  clear L0 he
  have q0 := fun op t W x k => guard_ev op t W x k
  have q2 := fun W k => neq_ev W k
  have hD := fun w => isday_any n w
  rw [decide_eq_true a] at hD
  have HD := Lib.hid hD; clear hD
  have hc : 0 ≤ cmn t ∧ cmn t ≤ 1439 := by have := b; unfold ckB at this; unfold cmn; split <;> omega
  obtain ⟨h0, h1⟩ : 0 ≤ cmn t / 60 ∧ cmn t / 60 ≤ 23 := by omega
  obtain ⟨i0, i1⟩ : 0 ≤ cmn t % 60 ∧ cmn t % 60 ≤ 59 := by omega
  have hC := fun w => clock_some t w b
  have hN := fun w => isnano_any nn w
  rw [decide_eq_true c] at hN
  have HN := Lib.hid hN; clear hN
  have hF := fun w => isoffset_any o w
  rw [decide_eq_true g] at hF
  have HF := Lib.hid hF; clear hF
  have hS : ∀ w, Calls Tryd.prog 60 #[.int .i64 n, .int .i64 (60 * (cmn t / 60) + cmn t % 60), .int .i64 o] w fun e w' => e = .returned (.tuple #[.int .i64 (shn n t o), .int .i64 (shm t o)]) ∧ w = w' := fun w => by
    have := shift_any n (60 * (cmn t / 60) + cmn t % 60) o w a (by omega) g
    rw [show shn n t o = n + (60 * (cmn t / 60) + cmn t % 60 + o) / 1440 by unfold shn; omega, show shm t o = (60 * (cmn t / 60) + cmn t % 60 + o) % 1440 by unfold shm; omega]
    exact this
  have HS := Lib.hid hS; clear hS
  have m0 : 0 ≤ shm t o ∧ shm t o ≤ 1439 := by unfold shm; omega
  obtain ⟨m0, m1⟩ := m0
  have HC := Lib.hid hC; clear hC hc
  generalize cmn t / 60 = H at *
  generalize cmn t % 60 = I at *
  generalize crs t = R at *
  have HX := Lib.hid (fun w => date_none (shn n t o) w (by unfold dyok at k; omega))
  clear a b c g k
  generalize shn n t o = S at *
  generalize shm t o = M at *
  rw [ev_pos (k := 13) (by decide)]
  go_enter Tryd.func47, Tryd.ntmps47
  go_upto_region 1 with fail
  rw [← hW0]; clear hW0
  go_wp2_with (first
    | (go_at_call 61; refine (HD.out _).mono ?_; rintro e w' ⟨rfl, rfl⟩)
    | (go_at_call 71; refine (HC.out _).mono ?_; rintro e w' ⟨rfl, rfl⟩)
    | (go_at_call 58; refine (HN.out _).mono ?_; rintro e w' ⟨rfl, rfl⟩)
    | (go_at_call 59; refine (HF.out _).mono ?_; rintro e w' ⟨rfl, rfl⟩)
    | (go_at_call 60; refine (HS.out _).mono ?_; rintro e w' ⟨rfl, rfl⟩)
    | (go_at_call 72; refine (HX.out _).mono ?_; rintro e w' ⟨rfl, rfl⟩))
  have hP := put8_lk P0.out 0 0 0 0 0 0 0 0
  have hB := put8_below B0.out (Nat.le_refl _) 0 0 0 0 0 0 0 0
  obtain ⟨W9, hW9⟩ : ∃ W9, W9 = put8 W0 w.heap.size 0 0 0 0 0 0 0 0 := ⟨_, rfl⟩
  rw [← hW9] at hP hB
  show bodyPost _ _ _ _ _ (put8 W0 w.heap.size 0 0 0 0 0 0 0 0)
  rw [← hW9]
  clear hW9
  obtain ⟨r0, r1, r2, r3, r4, r5, r6, r7⟩ := hP.all
  clear hP
  refine bodyPost_ret (v := .tuple #[.agg #[.int .i64 0, .int .i64 0, .int .i64 0, .int .i64 0, .int .i64 0, .int .i64 0, .int .i64 0, .int .i64 0], .iface 80 (.int .i64 13)]) (by simp [results, Tryd.results47, go_sem, ev, r0, r1, r2, r3, r4, r5, r6, r7]) rfl ⟨rfl, hB⟩

set_option maxRecDepth 100000 in
set_option maxHeartbeats 2000000 in
theorem lof_some (n t nn o : Int) (w : World) (he : Ends w) (a : dyok n) (b : ckB t) (c : nnok nn) (g : ofok o) {y m d : Int} (D : Dt (shn n t o) y m d) :
    Calls Tryd.prog 47 #[.int .i64 n, .int .i64 t, .int .i64 nn, .int .i64 o] w fun e w' => e = .returned (.tuple #[.agg #[.int .i64 y, .int .i64 m, .int .i64 d, .int .i64 (shm t o / 60), .int .i64 (shm t o % 60), .int .i64 (crs t), .int .i64 nn, .int .i64 o], ev 0]) ∧ Below w.heap.size w w' := by
  obtain ⟨W0, hW0⟩ : ∃ W0, W0 = w.alloc (.cells #[.int .i64 0, .int .i64 0, .int .i64 0, .int .i64 0, .int .i64 0, .int .i64 0, .int .i64 0, .int .i64 0] 26) := ⟨_, rfl⟩
  have B0 : Hid (Below w.heap.size w W0) := Lib.hid (by rw [hW0]; exact bel_new w _)
  have L0 : Lk 26 W0 w.heap.size lb0 := by rw [hW0]; exact lk_new _ _ lb0
  obtain ⟨f0, f1, f2, f3, f4, f5, f6, f7⟩ := L0.frees
  obtain ⟨c0, c1, c2, c3, c4, c5, c6, c7⟩ := L0.all
  have P0 := Lib.hid L0
  have E0 := Lib.hid (he.below B0.out)
  clear L0 he
  have q0 := fun op t W x k => guard_ev op t W x k
  have q2 := fun W k => neq_ev W k
  have hD := fun w => isday_any n w
  rw [decide_eq_true a] at hD
  have HD := Lib.hid hD; clear hD
  have hc : 0 ≤ cmn t ∧ cmn t ≤ 1439 := by have := b; unfold ckB at this; unfold cmn; split <;> omega
  obtain ⟨h0, h1⟩ : 0 ≤ cmn t / 60 ∧ cmn t / 60 ≤ 23 := by omega
  obtain ⟨i0, i1⟩ : 0 ≤ cmn t % 60 ∧ cmn t % 60 ≤ 59 := by omega
  have hC := fun w => clock_some t w b
  have hN := fun w => isnano_any nn w
  rw [decide_eq_true c] at hN
  have HN := Lib.hid hN; clear hN
  have hF := fun w => isoffset_any o w
  rw [decide_eq_true g] at hF
  have HF := Lib.hid hF; clear hF
  have hS : ∀ w, Calls Tryd.prog 60 #[.int .i64 n, .int .i64 (60 * (cmn t / 60) + cmn t % 60), .int .i64 o] w fun e w' => e = .returned (.tuple #[.int .i64 (shn n t o), .int .i64 (shm t o)]) ∧ w = w' := fun w => by
    have := shift_any n (60 * (cmn t / 60) + cmn t % 60) o w a (by omega) g
    rw [show shn n t o = n + (60 * (cmn t / 60) + cmn t % 60 + o) / 1440 by unfold shn; omega, show shm t o = (60 * (cmn t / 60) + cmn t % 60 + o) % 1440 by unfold shm; omega]
    exact this
  have HS := Lib.hid hS; clear hS
  have m0 : 0 ≤ shm t o ∧ shm t o ≤ 1439 := by unfold shm; omega
  obtain ⟨m0, m1⟩ := m0
  have HC := Lib.hid hC; clear hC hc
  generalize cmn t / 60 = H at *
  generalize cmn t % 60 = I at *
  generalize crs t = R at *
  have HX := Lib.hid (fun w he => date_some (shn n t o) y m d w D he)
  clear a b c g D
  generalize shn n t o = S at *
  generalize shm t o = M at *
  go_enter Tryd.func47, Tryd.ntmps47
  go_upto_region 1 with fail
  rw [← hW0]; clear hW0
  go_wp2_with (first
    | (go_at_call 61; refine (HD.out _).mono ?_; rintro e w' ⟨rfl, rfl⟩)
    | (go_at_call 71; refine (HC.out _).mono ?_; rintro e w' ⟨rfl, rfl⟩)
    | (go_at_call 58; refine (HN.out _).mono ?_; rintro e w' ⟨rfl, rfl⟩)
    | (go_at_call 59; refine (HF.out _).mono ?_; rintro e w' ⟨rfl, rfl⟩)
    | (go_at_call 60; refine (HS.out _).mono ?_; rintro e w' ⟨rfl, rfl⟩))
  refine (HX.out _ E0.out).mono ?_
  rintro e w1 ⟨rfl, hb⟩
  have L1 := Lib.hid (P0.out.keep hb)
  have B1 := Lib.hid (B0.out.trans (hb.mono B0.out.size))
  clear hb f0 f1 f2 f3 f4 f5 f6 f7 c0 c1 c2 c3 c4 c5 c6 c7
  obtain ⟨f0, f1, f2, f3, f4, f5, f6, f7⟩ := L1.out.frees
  obtain ⟨c0, c1, c2, c3, c4, c5, c6, c7⟩ := L1.out.all
  go_wp2_with fail
  have hP := put8_lk L1.out y m d (M / 60) (M % 60) R nn o
  have hB := put8_below B1.out (Nat.le_refl _) y m d (M / 60) (M % 60) R nn o
  obtain ⟨W9, hW9⟩ : ∃ W9, W9 = put8 w1 w.heap.size y m d (M / 60) (M % 60) R nn o := ⟨_, rfl⟩
  rw [← hW9] at hP hB
  show bodyPost _ _ _ _ _ (put8 w1 w.heap.size y m d (M / 60) (M % 60) R nn o)
  rw [← hW9]
  clear hW9
  obtain ⟨r0, r1, r2, r3, r4, r5, r6, r7⟩ := hP.all
  clear hP
  refine bodyPost_ret (v := .tuple #[.agg #[.int .i64 y, .int .i64 m, .int .i64 d, .int .i64 (M / 60), .int .i64 (M % 60), .int .i64 R, .int .i64 nn, .int .i64 o], ev 0]) (by simp [results, Tryd.results47, go_sem, ev, r0, r1, r2, r3, r4, r5, r6, r7]) rfl ⟨rfl, hB⟩

/-- The label of a day and a second of it, or its error. -/
theorem lof_any (n t nn o : Int) (w : World) (he : Ends w) {L : Lb} (hL : Mk n t nn o L) :
    Calls Tryd.prog 47 #[.int .i64 n, .int .i64 t, .int .i64 nn, .int .i64 o] w fun e w' => e = .returned (.tuple #[.agg L.cells, ev (mkE n t nn o)]) ∧ Below w.heap.size w w' := by
  rcases hL with ⟨h, y, m, d, D, rfl⟩ | ⟨h, rfl⟩
  · obtain ⟨a, b, c, g, -⟩ := mkE_zero h
    rw [h]
    exact lof_some n t nn o w he a b c g D
  · by_cases a : dyok n
    · by_cases b : ckB t
      · by_cases c : nnok nn
        · by_cases g : ofok o
          · by_cases k : dyok (shn n t o)
            · exact absurd (zero_mkE a b c g k) h
            · rw [show mkE n t nn o = 13 by unfold mkE; rw [if_pos a, if_pos ⟨b, c, g⟩, if_neg k]]
              exact lof_far n t nn o w he a b c g k
          · rw [show mkE n t nn o = 1 by unfold mkE; rw [if_pos a, if_neg (fun x => g x.2.2)]]
            exact lof_offset n t nn o w he a b c g
        · rw [show mkE n t nn o = 1 by unfold mkE; rw [if_pos a, if_neg (fun x => c x.2.1)]]
          exact lof_nano n t nn o w he a b c
      · rw [show mkE n t nn o = 1 by unfold mkE; rw [if_pos a, if_neg (fun x => b x.1)]]
        exact lof_clock n t nn o w he a b
    · rw [show mkE n t nn o = 13 by unfold mkE; rw [if_neg a]]
      exact lof_day n t nn o w he a

end Go.Proofs.YtiamggjebaabkaaDoor
