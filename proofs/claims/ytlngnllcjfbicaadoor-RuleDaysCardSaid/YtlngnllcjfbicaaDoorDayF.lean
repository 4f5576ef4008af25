/- The document's answer for days: Check, Start, First, Last, Of, Weekday. -/
import Derived.Test.YtlngnllcjfbicaaDoorDayE
namespace Go.Proofs.YtlngnllcjfbicaaDoor
open Go.RowKit
set_option linter.unusedVariables false

set_option maxHeartbeats 2000000 in
theorem rstart_any (y : Int) (w : World) (h : -30000 ≤ y) (h' : y ≤ 30000) : Calls Tryd.prog 32 #[.int .i64 y] w fun e w' => e = .returned (.int .i64 (st y)) ∧ w = w' := by
  have bs := st_bd h h'
  have hD := fun y w => rdays_any y w
  have HD := Lib.hid hD; clear hD
  obtain ⟨S, hS⟩ : ∃ S, S = st y := ⟨_, rfl⟩
  have HS := Lib.hid hS
  rw [← hS] at bs ⊢
  clear hS
  go_enter Tryd.func32, Tryd.ntmps32
  go_wp2
  go_loop [0, 3] (fun a b => ∃ x n : Int, a = .int .i64 x ∧ b = .int .i64 n ∧ -30000 ≤ x ∧ x ≤ 30000 ∧ -40000000 ≤ n ∧ n ≤ 0 ∧ Hid (n + st x = S)) (fun a _ => (1970 - intOf a).toNat)
  case atStart => exact ⟨y, 0, rfl, rfl, h, h', by omega, by omega, Lib.hid (by rw [HS.out]; omega)⟩
  case round =>
    obtain ⟨x, n, rfl, rfl, x1, x2, n1, n2, I⟩ := hrel
    by_cases hlt : x < 1970
    · have I2 : Hid (n - 146097 + st (x + 400) = S) := Lib.hid (by rw [st_cycle, ← I.out]; omega)
      have bx : -40000000 ≤ n - 146097 := by have := st_mono (a := x) (b := 1969) (by omega); have := I.out; rw [show st 1969 = -365 by decide] at *; omega
      go_wp2
      go_round
      case rel => exact ⟨x + 400, n - 146097, rfl, rfl, by omega, by omega, bx, by omega, I2⟩
      case measure => simp [intOf]; omega
    · have x0 : 1970 ≤ x := by omega
      have n0 : -40000000 ≤ n ∧ n ≤ 0 := ⟨n1, n2⟩
      clear hlt n1 n2
      go_wp2
      go_loop [0, 3] (fun a b => ∃ x n : Int, a = .int .i64 x ∧ b = .int .i64 n ∧ 1970 ≤ x ∧ x ≤ 30000 ∧ -40000000 ≤ n ∧ n ≤ 40000000 ∧ Hid (n + st x = S)) (fun a _ => (intOf a).toNat)
      case atStart => exact ⟨x, n, rfl, rfl, x0, x2, n0.1, by omega, I⟩
      case round =>
        clear I n0 x0 x1 x2
        obtain ⟨x, n, rfl, rfl, x1, x2, n1, n2, I⟩ := hrel
        by_cases hge : x ≥ 2370
        · have I2 : Hid (n + 146097 + st (x - 400) = S) := Lib.hid (by have := st_cycle (x - 400); rw [show x - 400 + 400 = x by omega] at this; rw [← I.out]; omega)
          have bx : n + 146097 ≤ 40000000 := by have := st_mono (a := 1970) (b := x - 400) (by omega); have := I2.out; rw [st_1970] at *; omega
          go_wp2
          go_round
          case rel => exact ⟨x - 400, n + 146097, rfl, rfl, by omega, by omega, by omega, bx, I2⟩
          case measure => simp [intOf]; omega
        · have x3 : x < 2370 := by omega
          clear hge x2
          go_wp2
          go_loop [3, 4] (fun a b => ∃ v z : Int, a = .int .i64 v ∧ b = .int .i64 z ∧ 1970 ≤ z ∧ z ≤ x ∧ -40000000 ≤ v ∧ v ≤ 50000000 + 400 * (z - 1970) ∧ Hid (v = n + st z)) (fun _ b => (x - intOf b).toNat)
          case atStart => exact ⟨n, 1970, rfl, rfl, by omega, x1, n1, by omega, Lib.hid (by rw [st_1970]; omega)⟩
          case round =>
            obtain ⟨v, z, rfl, rfl, z1, z2, v1, v2, J⟩ := hrel
            by_cases hl : z < x
            · have J2 : Hid (v + yd z = n + st (z + 1)) := Lib.hid (by rw [st_succ, J.out]; omega)
              have b := yd_bd z
              have hD := HD.out z w
              generalize yd z = l at *
              go_wp2_with (go_at_call 58; refine hD.mono ?_; rintro e w' ⟨rfl, rfl⟩)
              go_round
              case rel => exact ⟨v + l, z + 1, rfl, rfl, by omega, by omega, by omega, by omega, J2⟩
              case measure => simp [intOf]; omega
            · obtain rfl : x = z := by omega
              have E : Hid (v = S) := Lib.hid (by rw [J.out]; exact I.out)
              go_wp2
              go_ret
              exact ⟨ret1_eq (int_eq E.out), rfl⟩
set_option maxHeartbeats 2000000 in
theorem rweekday_any (n : Int) (w : World) : Calls Tryd.prog 35 #[.int .i64 n] w fun e w' => e = .returned (.int .i64 (wd n)) ∧ Below w.heap.size w w' := by
  have hb := tm_bd n
  have E : wd n = (n.tmod 7 + 7 + 3) % 7 + 1 := by rw [tm_same]; rfl
  rw [E]; clear E
  generalize hr : n.tmod 7 = r at *
  rcases (by omega : r = -6 ∨ r = -5 ∨ r = -4 ∨ r = -3 ∨ r = -2 ∨ r = -1 ∨ r = 0 ∨ r = 1 ∨ r = 2 ∨ r = 3 ∨ r = 4 ∨ r = 5 ∨ r = 6) with rfl | rfl | rfl | rfl | rfl | rfl | rfl | rfl | rfl | rfl | rfl | rfl | rfl
  all_goals
    clear hb
    go_enter Tryd.func35, Tryd.ntmps35
    go_wp2
    go_ret
    exact ⟨rfl, by go_grown⟩

set_option maxHeartbeats 1000000 in
theorem rof_any (y m d : Int) (w : World) (hy : isy y) (h : 1 ≤ m) (h' : m ≤ 12) (hd : 1 ≤ d) (hd' : d ≤ 31) : Calls Tryd.prog 34 #[.int .i64 y, .int .i64 m, .int .i64 d] w fun e w' => e = .returned (.int .i64 (st y + em y (m - 1) + d - 1)) ∧ Below w.heap.size w w' := by
  have hS := rstart_any y w (by have := hy.1; omega) (by have := hy.2; omega)
  have bs := st_in hy
  have bl := yd_bd y
  clear hy
  obtain ⟨z, hz⟩ : ∃ z, z = st y := ⟨_, rfl⟩
  have HZ := Lib.hid hz
  rw [← hz] at hS bs ⊢
  generalize yd y = Y at *
  clear hz
  have hS' := Lib.hid hS; clear hS
  go_enter Tryd.func34, Tryd.ntmps34
  go_wp2_with (go_at_call 32; refine hS'.out.mono ?_; rintro e w' ⟨rfl, rfl⟩)
  go_loopg [7, 8] (13 : Nat) (fun g a b wr => ∃ v x : Int, a = .int .i64 v ∧ b = .int .i64 x ∧ 1 ≤ x ∧ x ≤ m ∧ 12 - x ≤ g ∧ z ≤ v ∧ v ≤ z + 31 * x ∧ Hid (v = z + em y (x - 1) + d - 1) ∧ Hid (Below w.heap.size w wr))
  case atStart => exact ⟨z + d - 1, 1, rfl, rfl, by omega, h, by omega, by omega, by omega, Lib.hid (by rw [show (1 : Int) - 1 = 0 by omega, em_zero]; omega), Lib.hid (Below.refl _ _)⟩
  case round =>
    obtain ⟨v, x, rfl, rfl, x1, x2, hg, v1, v2, I, B⟩ := hrel
    by_cases hl : x < m
    · have hM := fun w => rmonth_any y x w x1 (by omega)
      have b := ml_bd y x1 (by omega)
      have I2 : Hid (v + ml y x = z + em y (x + 1 - 1) + d - 1) := Lib.hid (by have := em_succ y x; rw [show x + 1 - 1 = x by omega, I.out]; omega)
      generalize ml y x = l at *
      have HM := Lib.hid hM; clear hM
      go_wp2_with fail
      refine (HM.out _).mono ?_
      rintro e w1 ⟨rfl, hb⟩
      have B2 := Lib.hid (B.out.trans (hb.mono B.out.size))
      clear hb
      go_wp2_with fail
      go_roundg (12 - (x + 1)).toNat
      case measure => omega
      case rel => exact ⟨v + l, x + 1, rfl, rfl, by omega, by omega, by omega, by omega, by omega, I2, B2⟩
    · obtain rfl : m = x := by omega
      go_wp2
      go_ret
      exact ⟨ret1_eq (int_eq I.out), B.out⟩

end Go.Proofs.YtlngnllcjfbicaaDoor
