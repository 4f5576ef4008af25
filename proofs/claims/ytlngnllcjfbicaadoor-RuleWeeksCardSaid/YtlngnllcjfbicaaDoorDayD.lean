/- Package day: Date. -/
import Derived.Test.YtlngnllcjfbicaaDoorDayC
namespace Go.Proofs.YtlngnllcjfbicaaDoor
open Go.RowKit
set_option linter.unusedVariables false

/-- Four results. -/
theorem results_tmp4 {fn : Func} {t u v x : Tmp} (h : fn.results = #[.tmp t, .tmp u, .tmp v, .tmp x]) (tmps : Array Value) (P : Program) (w : World) :
    (results fn tmps).run P w = .ok (.tuple #[tmps.getD t undef, tmps.getD u undef, tmps.getD v undef, tmps.getD x undef]) w := by
  simp [results, h]
theorem ret4_eq {x x' y y' z z' u u' : Value} (h : x = x') (k : y = y') (l : z = z') (m : u = u') : Ending.returned (.tuple #[x, y, z, u]) = Ending.returned (.tuple #[x', y', z', u']) := by rw [h, k, l, m]

theorem date_none (n : Int) (w : World) (hn : n < -4371587 ∨ 2932896 < n) :
    Calls Tryd.prog 25 #[.int .i64 n] w fun e w' => e = .returned (.tuple #[.int .i64 0, .int .i64 0, .int .i64 0, ev 13]) ∧ w = w' := by
  have hF := first_any w
  have hL := last_any w
  rw [ev_pos (by decide)]
  rcases (by omega : n < -4371587 ∨ (¬ n < -4371587 ∧ n > 2932896)) with h | ⟨h, h'⟩
  all_goals
    go_enter Tryd.func25, Tryd.ntmps25
    go_wp2_with (first
      | (go_at_call 49; refine hF.mono ?_; rintro e w' ⟨rfl, rfl⟩)
      | (go_at_call 50; refine hL.mono ?_; rintro e w' ⟨rfl, rfl⟩))
    (try simp only [Exit.inBlock, Exit.then])
    refine bodyPost_ret (results_tmp4 rfl _ _ _) rfl ?_
    exact ⟨rfl, rfl⟩

set_option maxHeartbeats 1000000 in
theorem date_some (n y m d : Int) (w : World) (hd : Dt n y m d) (he : Ends w) :
    Calls Tryd.prog 25 #[.int .i64 n] w fun e w' => e = .returned (.tuple #[.int .i64 y, .int .i64 m, .int .i64 d, ev 0]) ∧ Below w.heap.size w w' := by
  have hF := fun w => first_any w
  have hL := fun w => last_any w
  obtain ⟨e1, e2, e3, e4⟩ := hd.ends
  have hr := hd.range
  obtain ⟨hy, m1, m2, d1, d2, hn⟩ := hd
  have hY := yearof_any n y w hy e1 e2
  have hS := fun w => start_any y w (by have := hy.1; omega) (by have := hy.2; omega)
  have hM := fun w he => monthof_any y (n - st y + 1) m w m1 m2 (by omega) (by omega) he
  have hE := fun w he => end_any y (m - 1) w (by omega) (by omega) he
  have b := em_bd y (m := m - 1) (by omega) (by omega)
  have s := st_in hy
  have k1 : ¬ n < -4371587 := by omega
  have k2 : ¬ n > 2932896 := by omega
  have l := yd_bd y
  have q : 0 ≤ n - st y ∧ n - st y ≤ 366 := by rw [st_succ] at e2; omega
  have N : Hid (n - st y + 1 - em y (m - 1) = d) := Lib.hid (by omega)
  have HE := Lib.hid he
  clear e1 e2 e3 e4 hn d2 d1 hy he
  generalize st y = S at *
  generalize em y (m - 1) = E at *
  generalize yd y = Y at *
  go_enter Tryd.func25, Tryd.ntmps25
  go_wp2_with (first
    | (go_at_call 49; refine (hF _).mono ?_; rintro e w' ⟨rfl, rfl⟩)
    | (go_at_call 50; refine (hL _).mono ?_; rintro e w' ⟨rfl, rfl⟩))
  refine hY.mono ?_
  rintro e w1 ⟨rfl, hb1⟩
  have B1 := Lib.hid hb1
  have E1 := Lib.hid (HE.out.below hb1)
  clear hb1
  go_wp2_with (go_at_call 52; refine (hS _).mono ?_; rintro e w' ⟨rfl, rfl⟩)
  refine (hM _ E1.out).mono ?_
  rintro e w2 ⟨rfl, hb2⟩
  have B2 := Lib.hid (B1.out.trans (hb2.mono B1.out.size))
  have E2 := Lib.hid (E1.out.below hb2)
  clear hb2
  go_wp2_with (go_at_call 54; refine (hE _ E2.out).mono ?_; rintro e w' ⟨rfl, rfl⟩)
  (try simp only [Exit.inBlock, Exit.then])
  refine bodyPost_ret (results_tmp4 rfl _ _ _) rfl ?_
  exact ⟨ret4_eq rfl rfl (int_eq N.out) rfl, B2.out⟩

end Go.Proofs.YtlngnllcjfbicaaDoor
