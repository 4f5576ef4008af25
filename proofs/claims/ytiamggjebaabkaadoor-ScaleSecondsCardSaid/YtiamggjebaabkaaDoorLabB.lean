/- Package label: Split. -/
import Derived.Test.YtiamggjebaabkaaDoorLabA
namespace Go.Proofs.YtiamggjebaabkaaDoor
open Go.RowKit
set_option linter.unusedVariables false

/-- The clock, the nanoseconds or the offset isn't one. -/
theorem three_no {l : Lb} (g : ¬ (clok l.h l.i l.s ∧ nnok l.n ∧ ofok l.o)) : decide (clok l.h l.i l.s) = false ∨ (decide (clok l.h l.i l.s) = true ∧ decide (nnok l.n) = false) ∨ (decide (clok l.h l.i l.s) = true ∧ decide (nnok l.n) = true ∧ decide (ofok l.o) = false) := by
  by_cases a : clok l.h l.i l.s
  · by_cases b : nnok l.n
    · by_cases c : ofok l.o
      · exact absurd ⟨a, b, c⟩ g
      · exact .inr (.inr ⟨decide_eq_true a, decide_eq_true b, decide_eq_false c⟩)
    · exact .inr (.inl ⟨decide_eq_true a, decide_eq_false b⟩)
  · exact .inl (decide_eq_false a)

set_option maxHeartbeats 1000000 in
theorem lsplit_date (l : Lb) (w : World) (he : Ends w) (c : ckd l.y l.m l.d ≠ 0) :
    Calls Tryd.prog 34 #[.agg l.cells] w fun e w' => e = .returned (.tuple #[.int .i64 0, .int .i64 0, ev (ckd l.y l.m l.d)]) ∧ Below w.heap.size w w' := by
  obtain ⟨W0, hW0⟩ : ∃ W0, W0 = w.alloc (.cells l.cells 26) := ⟨_, rfl⟩
  have B0 : Hid (Below w.heap.size w W0) := Lib.hid (by rw [hW0]; exact bel_new w _)
  have L0 : Lk 26 W0 w.heap.size l := by rw [hW0]; exact lk_new _ _ _
  obtain ⟨c0, c1, c2, -, -, -, -, -⟩ := L0.all
  have hO := dof_any l.y l.m l.d W0 (he.below B0.out)
  have q0 := fun op t x k => guard_ev op t W0 x k
  have q2 := fun k => neq_ev W0 k
  have c' := ne_z c
  clear L0 he c
  generalize ckd l.y l.m l.d = k at *
  generalize ofR l.y l.m l.d = r at *
  go_enter Tryd.func34, Tryd.ntmps34
  go_upto_region 1 with fail
  rw [← hW0]; clear hW0
  go_wp2_with (go_at_call 56; refine hO.mono ?_; rintro e w' ⟨rfl, rfl⟩)
  go_ret3
  exact ⟨rfl, B0.out⟩

set_option maxHeartbeats 1000000 in
theorem lsplit_range (l : Lb) (w : World) (he : Ends w) (c : ckd l.y l.m l.d = 0) (g : ¬ (clok l.h l.i l.s ∧ nnok l.n ∧ ofok l.o)) :
    Calls Tryd.prog 34 #[.agg l.cells] w fun e w' => e = .returned (.tuple #[.int .i64 0, .int .i64 0, ev 1]) ∧ Below w.heap.size w w' := by
  obtain ⟨W0, hW0⟩ : ∃ W0, W0 = w.alloc (.cells l.cells 26) := ⟨_, rfl⟩
  have B0 : Hid (Below w.heap.size w W0) := Lib.hid (by rw [hW0]; exact bel_new w _)
  have L0 : Lk 26 W0 w.heap.size l := by rw [hW0]; exact lk_new _ _ _
  obtain ⟨c0, c1, c2, c3, c4, c5, c6, c7⟩ := L0.all
  have hO := dof_any l.y l.m l.d W0 (he.below B0.out)
  rw [c] at hO
  have q0 := fun op t x k => guard_ev op t W0 x k
  have q2 := fun k => neq_ev W0 k
  have HC := isclock_any l W0
  have HN := Lib.hid (fun w => isnano_any l.n w)
  have HF := Lib.hid (fun w => isoffset_any l.o w)
  have LH := Lib.hid L0
  rw [ev_pos (k := 1) (by decide)]
  have h3 := three_no g
  clear L0 he c g
  generalize decide (clok l.h l.i l.s) = x at *
  generalize decide (nnok l.n) = y at *
  generalize decide (ofok l.o) = z at *
  generalize ofR l.y l.m l.d = r at *
  rcases h3 with rfl | ⟨rfl, rfl⟩ | ⟨rfl, rfl, rfl⟩
  all_goals
    go_enter Tryd.func34, Tryd.ntmps34
    go_upto_region 1 with fail
    rw [← hW0]; clear hW0
    go_wp2_with (go_at_call 56; refine hO.mono ?_; rintro e w' ⟨rfl, rfl⟩)
    refine HC.mono ?_
    rintro e w1 ⟨rfl, hb⟩
    obtain ⟨-, -, -, -, -, -, d6, d7⟩ := (LH.out.keep hb).all
    have B1 := Lib.hid (B0.out.trans (hb.mono B0.out.size))
    clear hb c0 c1 c2 c3 c4 c5 c6 c7 q0 q2 hO
    go_wp2_with (first
      | (go_at_call 58; refine (HN.out _).mono ?_; rintro e w' ⟨rfl, rfl⟩)
      | (go_at_call 59; refine (HF.out _).mono ?_; rintro e w' ⟨rfl, rfl⟩))
    go_ret3
    exact ⟨rfl, B1.out⟩

set_option maxHeartbeats 2000000 in
/-- Behind the checks of the written numbers. -/
theorem lsplit_right (l : Lb) (w : World) (he : Ends w) (c : ckd l.y l.m l.d = 0) (g : clok l.h l.i l.s) (gn : nnok l.n) (go : ofok l.o) :
    Calls Tryd.prog 34 #[.agg l.cells] w fun e w' => e = .returned (.tuple #[.int .i64 (lbN l), .int .i64 (lbT l), ev (lbE l)]) ∧ Below w.heap.size w w' := by
  obtain ⟨W0, hW0⟩ : ∃ W0, W0 = w.alloc (.cells l.cells 26) := ⟨_, rfl⟩
  have B0 : Hid (Below w.heap.size w W0) := Lib.hid (by rw [hW0]; exact bel_new w _)
  have L0 : Lk 26 W0 w.heap.size l := by rw [hW0]; exact lk_new _ _ _
  obtain ⟨c0, c1, c2, c3, c4, c5, c6, c7⟩ := L0.all
  have hO := dof_any l.y l.m l.d W0 (he.below B0.out)
  rw [c] at hO
  have q0 := fun op t x k => guard_ev op t W0 x k
  have q2 := fun k => neq_ev W0 k
  have HC := isclock_any l W0
  rw [decide_eq_true g] at HC
  have hN := fun w => isnano_any l.n w
  rw [decide_eq_true gn] at hN
  have hF := fun w => isoffset_any l.o w
  rw [decide_eq_true go] at hF
  have HN := Lib.hid hN; have HF := Lib.hid hF
  have LH := Lib.hid L0
  have hr := (ckd_dt c).range
  have hS := fun w => shift_any (ofR l.y l.m l.d) (60 * l.h + l.i) (-l.o) w hr (by unfold clok at g; omega) (by unfold ofok at go; omega)
  rw [show 60 * l.h + l.i + -l.o = lmm l by unfold lmm; omega, show ofR l.y l.m l.d + lmm l / 1440 = ldy l from rfl, show lmm l % 1440 = lmt l from rfl] at hS
  have HS := Lib.hid hS
  have HD := isday_any (ldy l)
  have m0 : 0 ≤ lmt l ∧ lmt l ≤ 1439 := by unfold lmt; omega
  have n0 : -4371589 ≤ ldy l ∧ ldy l ≤ 2932898 := by have : lmm l ≤ 2880 ∧ -1440 ≤ lmm l := by { unfold lmm; unfold clok at g; unfold ofok at go; omega }; unfold ldy; omega
  have G : Hid (lbE l = if dyok (ldy l) then (if l.s = 60 ∧ lmt l ≠ 1439 then 12 else 0) else 13) := Lib.hid (by unfold lbE; rw [if_pos c, if_pos ⟨g, gn, go⟩])
  have GN : Hid (lbN l = if lbE l = 0 then ldy l else 0) := Lib.hid rfl
  have GT : Hid (lbT l = if lbE l = 0 then 60 * lmt l + l.s else 0) := Lib.hid rfl
  unfold clok at g
  unfold ofok at go
  obtain ⟨h0, h1, i0, i1, s0, s1⟩ := g
  obtain ⟨o0, o1⟩ := go
  clear L0 he c hS hN hF hr gn
  generalize lbE l = E at *
  generalize lbN l = N at *
  generalize lbT l = T at *
  generalize ofR l.y l.m l.d = r at *
  generalize ldy l = D at *
  generalize lmt l = M at *
  by_cases k : dyok D
  · rw [if_pos k] at G
    rw [decide_eq_true k] at HD
    have HDD := Lib.hid HD; clear HD k
    by_cases s6 : l.s = 60
    · by_cases m9 : M = 1439
      · obtain rfl : E = 0 := by rw [G.out, if_neg (by omega)]
        rw [if_pos rfl] at GN GT
        obtain rfl : N = D := GN.out
        have t : T = 60 * M + l.s := GT.out
        subst t
        clear G GN GT
        have b1 : (l.s == 60) = true := by simpa using s6
        have b2 : (M != 1439) = false := by simpa using m9
        have w1 : IntKind.i64.wrap (60 * M) = 60 * M := IntWalk.i64_in _ (by omega)
        have w2 : IntKind.i64.wrap (60 * M + l.s) = 60 * M + l.s := IntWalk.i64_in _ (by omega)
        clear s6 m9
        go_enter Tryd.func34, Tryd.ntmps34
        go_upto_region 1 with fail
        rw [← hW0]; clear hW0
        go_wp2_with (go_at_call 56; refine hO.mono ?_; rintro e w' ⟨rfl, rfl⟩)
        refine HC.mono ?_
        rintro e w1 ⟨rfl, hb⟩
        obtain ⟨-, -, -, d3, d4, d5, d6, d7⟩ := (LH.out.keep hb).all
        have B1 := Lib.hid (B0.out.trans (hb.mono B0.out.size))
        clear hb c0 c1 c2 c3 c4 c5 c6 c7 q0 q2 hO
        go_wp2_with (first
          | (go_at_call 58; refine (HN.out _).mono ?_; rintro e w' ⟨rfl, rfl⟩)
          | (go_at_call 59; refine (HF.out _).mono ?_; rintro e w' ⟨rfl, rfl⟩)
          | (go_at_call 60; refine (HS.out _).mono ?_; rintro e w' ⟨rfl, rfl⟩)
          | (go_at_call 61; refine (HDD.out _).mono ?_; rintro e w' ⟨rfl, rfl⟩))
        go_quiet (fail)
        go_wp2
        go_ret3
        exact ⟨rfl, B1.out.trans (drewN_below _ _ _)⟩
      · obtain rfl : E = 12 := by rw [G.out, if_pos ⟨s6, m9⟩]
        rw [if_neg (by decide)] at GN GT
        obtain rfl : N = 0 := GN.out
        obtain rfl : T = 0 := GT.out
        clear G GN GT
        have b1 : (l.s == 60) = true := by simpa using s6
        have b2 : (M != 1439) = true := by simpa using m9
        rw [ev_pos (k := 12) (by decide)]
        clear s6 m9
        go_enter Tryd.func34, Tryd.ntmps34
        go_upto_region 1 with fail
        rw [← hW0]; clear hW0
        go_wp2_with (go_at_call 56; refine hO.mono ?_; rintro e w' ⟨rfl, rfl⟩)
        refine HC.mono ?_
        rintro e w1 ⟨rfl, hb⟩
        obtain ⟨-, -, -, d3, d4, d5, d6, d7⟩ := (LH.out.keep hb).all
        have B1 := Lib.hid (B0.out.trans (hb.mono B0.out.size))
        clear hb c0 c1 c2 c3 c4 c5 c6 c7 q0 q2 hO
        go_wp2_with (first
          | (go_at_call 58; refine (HN.out _).mono ?_; rintro e w' ⟨rfl, rfl⟩)
          | (go_at_call 59; refine (HF.out _).mono ?_; rintro e w' ⟨rfl, rfl⟩)
          | (go_at_call 60; refine (HS.out _).mono ?_; rintro e w' ⟨rfl, rfl⟩)
          | (go_at_call 61; refine (HDD.out _).mono ?_; rintro e w' ⟨rfl, rfl⟩))
        go_ret3
        exact ⟨rfl, B1.out⟩
    · obtain rfl : E = 0 := by rw [G.out, if_neg (by omega)]
      rw [if_pos rfl] at GN GT
      obtain rfl : N = D := GN.out
      have t : T = 60 * M + l.s := GT.out
      subst t
      clear G GN GT
      have b1 : (l.s == 60) = false := by simpa using s6
      have w1 : IntKind.i64.wrap (60 * M) = 60 * M := IntWalk.i64_in _ (by omega)
      have w2 : IntKind.i64.wrap (60 * M + l.s) = 60 * M + l.s := IntWalk.i64_in _ (by omega)
      clear s6
      go_enter Tryd.func34, Tryd.ntmps34
      go_upto_region 1 with fail
      rw [← hW0]; clear hW0
      go_wp2_with (go_at_call 56; refine hO.mono ?_; rintro e w' ⟨rfl, rfl⟩)
      refine HC.mono ?_
      rintro e w1 ⟨rfl, hb⟩
      obtain ⟨-, -, -, d3, d4, d5, d6, d7⟩ := (LH.out.keep hb).all
      have B1 := Lib.hid (B0.out.trans (hb.mono B0.out.size))
      clear hb c0 c1 c2 c3 c4 c5 c6 c7 q0 q2 hO
      go_wp2_with (first
        | (go_at_call 58; refine (HN.out _).mono ?_; rintro e w' ⟨rfl, rfl⟩)
        | (go_at_call 59; refine (HF.out _).mono ?_; rintro e w' ⟨rfl, rfl⟩)
        | (go_at_call 60; refine (HS.out _).mono ?_; rintro e w' ⟨rfl, rfl⟩)
        | (go_at_call 61; refine (HDD.out _).mono ?_; rintro e w' ⟨rfl, rfl⟩))
      go_quiet (fail)
      go_wp2
      go_ret3
      exact ⟨rfl, B1.out.trans (drewN_below _ _ _)⟩
  · rw [if_neg k] at G
    rw [decide_eq_false k] at HD
    have HDD := Lib.hid HD; clear HD k
    obtain rfl : E = 13 := G.out
    rw [if_neg (by decide)] at GN GT
    obtain rfl : N = 0 := GN.out
    obtain rfl : T = 0 := GT.out
    clear G GN GT
    rw [ev_pos (k := 13) (by decide)]
    go_enter Tryd.func34, Tryd.ntmps34
    go_upto_region 1 with fail
    rw [← hW0]; clear hW0
    go_wp2_with (go_at_call 56; refine hO.mono ?_; rintro e w' ⟨rfl, rfl⟩)
    refine HC.mono ?_
    rintro e w1 ⟨rfl, hb⟩
    obtain ⟨-, -, -, d3, d4, d5, d6, d7⟩ := (LH.out.keep hb).all
    have B1 := Lib.hid (B0.out.trans (hb.mono B0.out.size))
    clear hb c0 c1 c2 c3 c4 c5 c6 c7 q0 q2 hO
    go_wp2_with (first
      | (go_at_call 58; refine (HN.out _).mono ?_; rintro e w' ⟨rfl, rfl⟩)
      | (go_at_call 59; refine (HF.out _).mono ?_; rintro e w' ⟨rfl, rfl⟩)
      | (go_at_call 60; refine (HS.out _).mono ?_; rintro e w' ⟨rfl, rfl⟩)
      | (go_at_call 61; refine (HDD.out _).mono ?_; rintro e w' ⟨rfl, rfl⟩))
    go_ret3
    exact ⟨rfl, B1.out⟩

/-- A label's day and second, or its error. -/
theorem lsplit_any (l : Lb) (w : World) (he : Ends w) :
    Calls Tryd.prog 34 #[.agg l.cells] w fun e w' => e = .returned (.tuple #[.int .i64 (lbN l), .int .i64 (lbT l), ev (lbE l)]) ∧ Below w.heap.size w w' := by
  by_cases c : ckd l.y l.m l.d = 0
  · by_cases g : clok l.h l.i l.s ∧ nnok l.n ∧ ofok l.o
    · exact lsplit_right l w he c g.1 g.2.1 g.2.2
    · have e : lbE l = 1 := by unfold lbE; rw [if_pos c, if_neg g]
      have e1 : lbN l = 0 := if_neg (by rw [e]; decide)
      have e2 : lbT l = 0 := if_neg (by rw [e]; decide)
      rw [e, e1, e2]
      exact lsplit_range l w he c g
  · have e : lbE l = ckd l.y l.m l.d := if_neg c
    have e1 : lbN l = 0 := if_neg (by rw [e]; exact c)
    have e2 : lbT l = 0 := if_neg (by rw [e]; exact c)
    rw [e, e1, e2]
    exact lsplit_date l w he c

set_option maxHeartbeats 1000000 in
theorem lcheck_any (l : Lb) (w : World) (he : Ends w) :
    Calls Tryd.prog 55 #[.agg l.cells] w fun e w' => e = .returned (ev (lbE l)) ∧ Below w.heap.size w w' := by
  obtain ⟨W0, hW0⟩ : ∃ W0, W0 = w.alloc (.cells l.cells 26) := ⟨_, rfl⟩
  have B0 : Hid (Below w.heap.size w W0) := Lib.hid (by rw [hW0]; exact bel_new w _)
  have L0 : Lk 26 W0 w.heap.size l := by rw [hW0]; exact lk_new _ _ _
  obtain ⟨c0, c1, c2, c3, c4, c5, c6, c7⟩ := L0.all
  have HS := Lib.hid (lsplit_any l W0 (he.below B0.out))
  clear L0 he
  generalize lbE l = E at *
  generalize lbN l = N at *
  generalize lbT l = T at *
  go_enter Tryd.func55, Tryd.ntmps55
  go_upto_region 1 with fail
  rw [← hW0]; clear hW0
  go_wp2_with fail
  refine HS.out.mono ?_
  rintro e w1 ⟨rfl, hb⟩
  have B1 := Lib.hid (B0.out.trans (hb.mono B0.out.size))
  clear hb
  go_wp2_with fail
  go_ret
  exact ⟨rfl, B1.out⟩

set_option maxHeartbeats 1000000 in
theorem lleap_any (l : Lb) (w : World) (he : Ends w) :
    Calls Tryd.prog 33 #[.agg l.cells] w fun e w' => e = .returned (.bool (decide (lbE l = 0 ∧ l.s = 60))) ∧ Below w.heap.size w w' := by
  obtain ⟨W0, hW0⟩ : ∃ W0, W0 = w.alloc (.cells l.cells 26) := ⟨_, rfl⟩
  have B0 : Hid (Below w.heap.size w W0) := Lib.hid (by rw [hW0]; exact bel_new w _)
  have L0 : Lk 26 W0 w.heap.size l := by rw [hW0]; exact lk_new _ _ _
  obtain ⟨c0, c1, c2, c3, c4, c5, c6, c7⟩ := L0.all
  have HS := Lib.hid (lcheck_any l W0 (he.below B0.out))
  clear L0 he
  have q0 := fun op t W x k => guard_ev op t W x k
  have q1 := fun W k => eql_ev W k
  generalize lbE l = E at *
  by_cases s6 : l.s = 60
  · have b1 : (l.s == 60) = true := by simpa using s6
    have e : decide (E = 0 ∧ l.s = 60) = (E == 0) := by
      by_cases a : E = 0
      · rw [decide_eq_true ⟨a, s6⟩, a]; rfl
      · rw [decide_eq_false (fun h => a h.1), beq_eq_false_iff_ne.2 a]
    rw [e]; clear e s6
    go_enter Tryd.func33, Tryd.ntmps33
    go_upto_region 1 with fail
    rw [← hW0]; clear hW0
    go_wp2_with fail
    refine HS.out.mono ?_
    rintro e w1 ⟨rfl, hb⟩
    have B1 := Lib.hid (B0.out.trans (hb.mono B0.out.size))
    clear hb
    go_wp2_with fail
    go_ret
    exact ⟨rfl, B1.out⟩
  · have b1 : (l.s == 60) = false := by simpa using s6
    rw [decide_eq_false (fun h => s6 h.2)]
    clear s6
    go_enter Tryd.func33, Tryd.ntmps33
    go_upto_region 1 with fail
    rw [← hW0]; clear hW0
    go_wp2_with fail
    go_ret
    exact ⟨rfl, B0.out⟩

end Go.Proofs.YtiamggjebaabkaaDoor
