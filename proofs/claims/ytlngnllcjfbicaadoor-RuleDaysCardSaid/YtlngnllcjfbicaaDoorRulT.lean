/- The document's answer for rules: Day. -/
import Derived.Test.YtlngnllcjfbicaaDoorRulF
import Derived.Test.YtlngnllcjfbicaaDoorRulE
import Derived.Test.YtlngnllcjfbicaaDoorDayF
import Derived.OrdersHeld
import Derived.Deep.RegionHeld3
namespace Go.Proofs.YtlngnllcjfbicaaDoor
open Go.RowKit
set_option linter.unusedVariables false
set_option linter.unusedSimpArgs false

set_option maxHeartbeats 1000000 in
theorem rof_wide (y m d : Int) (w : World) (hy : -30000 ≤ y ∧ y ≤ 30000) (h : 1 ≤ m) (h' : m ≤ 12) (hd : 1 ≤ d) (hd' : d ≤ 31) : Calls Tryd.prog 34 #[.int .i64 y, .int .i64 m, .int .i64 d] w fun e w' => e = .returned (.int .i64 (st y + em y (m - 1) + d - 1)) ∧ Below w.heap.size w w' := by
  have hS := rstart_any y w (by omega) (by omega)
  have bs := st_bd hy.1 hy.2
  clear hy
  obtain ⟨z, hz⟩ : ∃ z, z = st y := ⟨_, rfl⟩
  have HZ := Lib.hid hz
  rw [← hz] at hS bs ⊢
  clear hz
  have hS' := Lib.hid hS; clear hS
  go_enter Tryd.func34, Tryd.ntmps34
  go_wp2_with (go_at_call 32; refine hS'.out.mono ?_; rintro e w' ⟨rfl, rfl⟩)
  go_loopg [7, 8] (13 : Nat) (fun g a b wr => ∃ v x : Int, a = .int .i64 v ∧ b = .int .i64 x ∧ 1 ≤ x ∧ x ≤ m ∧ 12 - x ≤ g ∧ z ≤ v ∧ v ≤ z + 31 * x ∧ Hid (v = z + em y (x - 1) + d - 1) ∧ Hid (Below w.heap.size w wr))
  case atStart => exact ⟨z + d - 1, 1, rfl, rfl, by omega, h, by omega, by omega, by omega, Lib.hid (by rw [show (1 : Int) - 1 = 0 by omega, em_zero]; omega), Lib.hid (Below.refl _ _)⟩
  case round =>
    obtain ⟨v, x, rfl, rfl, x1, x2, hg, v1, v2, I, B⟩ := hrel
    by_cases hl : x < m
    · have hM := fun w => rmonth_any y x w x1 (by omega)
      have b := ml_bd y x1 (by omega)
      have I2 : Hid (v + ml y x = z + em y (x + 1 - 1) + d - 1) := Lib.hid (by have := em_succ y x; rw [show x + 1 - 1 = x by omega, I.out]; omega)
      generalize ml y x = l at *
      have HM := Lib.hid hM; clear hM
      go_wp2_with fail
      refine (HM.out _).mono ?_
      rintro e w1 ⟨rfl, hb⟩
      have B2 := Lib.hid (B.out.trans (hb.mono B.out.size))
      clear hb
      go_wp2_with fail
      go_roundg (12 - (x + 1)).toNat
      case measure => omega
      case rel => exact ⟨v + l, x + 1, rfl, rfl, by omega, by omega, by omega, by omega, by omega, I2, B2⟩
    · obtain rfl : m = x := by omega
      go_wp2
      go_ret
      exact ⟨ret1_eq (int_eq I.out), B.out⟩

set_option maxHeartbeats 2000000 in
theorem rday16_two (r : Ru) (y : Int) (w : World) (hr : ruE r = 0) (hy : yrP y) (k : r.K = 2) :
    Calls Tryd.prog 15 #[.agg r.cells, .int .i64 y] w fun e w' => e = .returned (.int .i64 (st y + psN y r)) ∧ Below w.heap.size w w' := by
  obtain ⟨W0, hW0⟩ : ∃ W0, W0 = w.alloc (.cells r.cells 30) := ⟨_, rfl⟩
  have B0 : Hid (Below w.heap.size w W0) := Lib.hid (by rw [hW0]; exact bel16 w _)
  have L0 : Qk W0 w.heap.size r := by rw [hW0]; exact qk_new _ _
  obtain ⟨c0, c1, c2, c3, c4⟩ := L0.all
  unfold yrP at hy
  have HS := Lib.hid (fun w => (rstart_any y w (by omega) (by omega)).mono fun _ _ h => (⟨h.1, h.2.symm⟩ : _ ∧ _))
  have hp : psN y r = r.D := by unfold psN; rw [if_neg (by omega), if_neg (by omega)]
  have sb := st_bd (y := y) (by omega) (by omega)
  have db := ps_bd (y := y) hr
  rw [hp] at db ⊢
  have t1 := eq_yes k
  clear L0 hp k hr hy
  generalize st y = S at *
  obtain ⟨K, M, W9, D, T⟩ := r
  simp only at c0 c1 c2 c3 c4 db t1
  have r1 := near16 (z := D) (by omega)
  have r2 := near16 (z := S + D) (by omega)
  have HS : Hid (∀ w, Calls Tryd.prog 32 #[.int .i64 y] w fun e w' => e = .returned (.int .i64 S) ∧ w' = w) := HS
  go_enter Tryd.func15, Tryd.ntmps15
  go_upto_region 1 with fail
  rw [← hW0]; clear hW0
  go_upto_region 2 with fail
  go_quiet ((go_at_call 32; exact Calls.quiet_of_same (HS.out _)))
  go_wp2_with fail
  go_ret
  exact ⟨rfl, below_dn16 B0.out _⟩
set_option maxHeartbeats 2000000 in
theorem rday16_one (r : Ru) (y : Int) (w : World) (hr : ruE r = 0) (hy : yrP y) (k : r.K = 1) :
    Calls Tryd.prog 15 #[.agg r.cells, .int .i64 y] w fun e w' => e = .returned (.int .i64 (st y + psN y r)) ∧ Below w.heap.size w w' := by
  obtain ⟨W0, hW0⟩ : ∃ W0, W0 = w.alloc (.cells r.cells 30) := ⟨_, rfl⟩
  have B0 : Hid (Below w.heap.size w W0) := Lib.hid (by rw [hW0]; exact bel16 w _)
  have L0 : Qk W0 w.heap.size r := by rw [hW0]; exact qk_new _ _
  obtain ⟨c0, c1, c2, c3, c4⟩ := L0.all
  unfold yrP at hy
  have hk := ruE_kinds hr
  have d1 : 1 ≤ r.D ∧ r.D ≤ 365 := by omega
  have hp : psN y r = if r.D < 60 ∨ lp y = false then r.D - 1 else r.D := by unfold psN; rw [if_neg (by omega), if_pos k]
  rw [hp]
  have t1 := eq_yes k
  have t2 : (r.K == 2) = false := eq_no (by omega)
  obtain ⟨K, M, W9, D, T⟩ := r
  simp only at c0 c1 c2 c3 c4 d1 t1 t2
  have HP : Hid (∀ m n : Int, 1 ≤ m → m ≤ 12 → n = D - em 2001 (m - 1) → 1 ≤ n → n ≤ ml 2001 m → st y + em y (m - 1) + n - 1 = st y + (if D < 60 ∨ lp y = false then D - 1 else D)) := Lib.hid (fun m n a b c d e => pl_day a b c d e)
  have HO := Lib.hid (fun m n w h1 h2 h3 h4 => rof_wide y m n w (by omega) h1 h2 h3 h4)
  clear L0 hp k hr hk hy
  simp only at HP ⊢
  obtain ⟨N, hN⟩ : ∃ N, N = st y + (if D < 60 ∨ lp y = false then D - 1 else D) := ⟨_, rfl⟩
  rw [← hN] at HP ⊢
  clear hN
  go_enter Tryd.func15, Tryd.ntmps15
  go_upto_region 1 with fail
  rw [← hW0]; clear hW0
  go_upto_region 6 with fail
  have c3' := c3
  clear c0 c1 c2 c3 c4 t1 t2
  go_loopg [5, 6] (13 : Nat) (fun g a b wr => ∃ x z : Int, a = .int .i64 x ∧ b = .int .i64 z ∧ 1 ≤ z ∧ z ≤ 12 ∧ 12 - z ≤ g ∧ 1 ≤ x ∧ x ≤ 365 ∧ Hid (x = D - em 2001 (z - 1)) ∧ Hid (Below w.heap.size w wr))
  case atStart => exact ⟨D, 1, rfl, rfl, by omega, by omega, by omega, d1.1, d1.2, Lib.hid (by rw [show (1 : Int) - 1 = 0 by omega, em_zero]; omega), B0⟩
  case round =>
    obtain ⟨x, z, rfl, rfl, z1, z2, hg, x1, x2, I, B⟩ := hrel
    have hM := fun w => rmonth_any 2001 z w z1 z2
    have lb := ml_bd 2001 z1 z2
    have es := em_succ 2001 z
    have ew : z = 12 → x ≤ ml 2001 z := by
      intro e; subst e
      have := I.out
      rw [show (12 : Int) - 1 = 11 by omega, show em 2001 11 = 334 by decide] at this
      rw [show ml 2001 12 = 31 by decide]; omega
    have I2 : Hid (x - ml 2001 z = D - em 2001 (z + 1 - 1)) := Lib.hid (by rw [show z + 1 - 1 = z by omega]; have := I.out; omega)
    have HQ := Lib.hid (fun h => HP.out z x z1 z2 I.out x1 h)
    obtain ⟨l, hl⟩ : ∃ l, l = ml 2001 z := ⟨_, rfl⟩
    rw [← hl] at hM lb ew I2 HQ
    have HM := Lib.hid hM
    clear hM es hl c3' d1
    by_cases hlt : x ≤ l
    · have t1 := lt_no (a := l) (b := x) (by omega)
      have e := HQ.out hlt
      have HOO := HO.out z x
      have HX := Lib.hid (fun w => HOO w z1 z2 x1 (by omega))
      rw [e] at HX
      clear I2 HQ ew HP HO HOO e
      go_wp2_with (first
        | (go_at_call 33; refine (HM.out _).mono ?_; rintro e w1 ⟨rfl, hb⟩; have B := Lib.hid (B.out.trans (hb.mono B.out.size)); clear hb)
        | (go_at_call 34; refine (HX.out _).mono ?_; rintro e w2 ⟨rfl, hb⟩; have B := Lib.hid (B.out.trans (hb.mono B.out.size)); clear hb))
      go_ret
      exact ⟨rfl, B.out⟩
    · have t1 := lt_yes (a := l) (b := x) (by omega)
      have z3 : z ≤ 11 := by
        rcases (by omega : z ≤ 11 ∨ z = 12) with h | h
        · exact h
        · have := ew h; omega
      have x3 : 1 ≤ x - l := by omega
      clear HQ ew
      go_wp2_with fail
      refine (HM.out _).mono ?_
      rintro e w1 ⟨rfl, hb⟩
      have B2 := Lib.hid (B.out.trans (hb.mono B.out.size))
      clear hb
      go_wp2_with fail
      refine (HM.out _).mono ?_
      rintro e w2 ⟨rfl, hb⟩
      have B3 := Lib.hid (B2.out.trans (hb.mono B2.out.size))
      clear hb
      go_wp2_with fail
      go_roundg (12 - (z + 1)).toNat
      case measure => omega
      case rel => exact ⟨x - l, z + 1, rfl, rfl, by omega, by omega, by omega, x3, by omega, I2, B3⟩

set_option maxHeartbeats 4000000 in
theorem rday16_three (r : Ru) (y : Int) (w : World) (hr : ruE r = 0) (hy : yrP y) (k : r.K = 3) :
    Calls Tryd.prog 15 #[.agg r.cells, .int .i64 y] w fun e w' => e = .returned (.int .i64 (st y + psN y r)) ∧ Below w.heap.size w w' := by
  obtain ⟨W0, hW0⟩ : ∃ W0, W0 = w.alloc (.cells r.cells 30) := ⟨_, rfl⟩
  have B0 : Hid (Below w.heap.size w W0) := Lib.hid (by rw [hW0]; exact bel16 w _)
  have L0 : Qk W0 w.heap.size r := by rw [hW0]; exact qk_new _ _
  obtain ⟨c0, c1, c2, c3, c4⟩ := L0.all
  have R0 := Lib.hid L0
  unfold yrP at hy
  have hk := ruE_kinds hr
  have m1 : 1 ≤ r.M ∧ r.M ≤ 12 := by omega
  have w1 : 1 ≤ r.W ∧ r.W ≤ 5 := by omega
  have d1 : 0 ≤ r.D ∧ r.D ≤ 6 := by omega
  have hp : st y + psN y r = fm y r.M + ahN y r := by unfold psN; rw [if_pos k]; unfold fm; omega
  rw [hp, ← fd_end m1.1 m1.2 w1.1 w1.2]
  have t1 : (r.K == 2) = false := eq_no (by omega)
  have t2 : (r.K == 1) = false := eq_no (by omega)
  have HM := Lib.hid (fun w => rmonth_any y r.M w m1.1 m1.2)
  have lb := ml_bd y m1.1 m1.2
  have ab := a0_bd y r.M r.D
  have eb := em_bd y (m := r.M - 1) (by omega) (by omega)
  have sb := st_bd (y := y) (by omega) (by omega)
  have HO : Hid (∀ x w, 1 ≤ x → x ≤ 31 → Calls Tryd.prog 34 #[.int .i64 y, .int .i64 r.M, .int .i64 x] w fun e w' => e = .returned (.int .i64 (fm y r.M + x - 1)) ∧ Below w.heap.size w w') :=
    Lib.hid (fun x w h1 h2 => by have := rof_wide y r.M x w (by omega) m1.1 m1.2 h1 h2; rwa [show st y + em y (r.M - 1) + x - 1 = fm y r.M + x - 1 by unfold fm; omega] at this)
  have HV := Lib.hid (fun n w => rweekday_any n w)
  have HI := Lib.hid (fun x => wd_is (y := y) (m := r.M) (x := x) d1.1 d1.2)
  have fb : -30000000 ≤ fm y r.M ∧ fm y r.M ≤ 30000000 := by unfold fm; omega
  generalize a0 y r.M r.D = A at *
  generalize fm y r.M = F at *
  generalize ml y r.M = L at *
  obtain ⟨K, M, W9, D, T⟩ := r
  simp only at c0 c1 c2 c3 c4 m1 w1 d1 t1 t2 HM HO HI ⊢
  have HH : Hid (∀ W, Kq16 W0 W → (W.cell? ⟨w.heap.size, 1, none⟩ = some (.int .i64 M) ∧ W.cell? ⟨w.heap.size, 2, none⟩ = some (.int .i64 W9) ∧ W.cell? ⟨w.heap.size, 3, none⟩ = some (.int .i64 D)) ∧ Kq16 W0 W) :=
    Lib.hid fun W hk => ⟨⟨(R0.out.keep hk.bel).all.2.1, (R0.out.keep hk.bel).all.2.2.1, (R0.out.keep hk.bel).all.2.2.2.1⟩, hk⟩
  clear L0 k hr hk hy hp eb sb
  go_enter Tryd.func15, Tryd.ntmps15
  go_upto_region 1 with fail
  rw [← hW0]; clear hW0
  go_upto_region 13 with fail
  clear c0 c1 c2 c3 c4 t1 t2
  go_loopg [7, 8, 9] (40 : Nat) (fun g a b c wr => ∃ u v x : Int, a = .int .i64 u ∧ b = .int .i64 v ∧ c = .int .i64 x ∧ 1 ≤ x ∧ x ≤ L + 1 ∧ L + 1 - x ≤ g ∧ 0 ≤ v ∧ v ≤ W9 ∧ Hid (u = fdN F A W9 x) ∧ Hid (v = mnN A W9 x) ∧ Hid (Kq16 W0 wr))
  case atStart => exact ⟨0, 0, 1, rfl, rfl, rfl, by omega, by omega, by omega, by omega, by omega, Lib.hid (mn_one F ab.1 ab.2 w1.1).2.symm, Lib.hid (mn_one F ab.1 ab.2 w1.1).1.symm, Lib.hid ⟨Below.refl _ _⟩⟩
  case round =>
    obtain ⟨u, v, x, rfl, rfl, rfl, x1, x2, hg, v1, v2, U, V, Q⟩ := hrel
    obtain ⟨⟨k1, k2, k3⟩, -⟩ := HH.out _ Q.out
    by_cases hlt : x ≤ L
    · have t1 := le_yes hlt
      have HOO := HO.out x
      have HX := Lib.hid (fun w => HOO w x1 (by omega))
      obtain ⟨n, hn⟩ : ∃ n, n = F + x - 1 := ⟨_, rfl⟩
      rw [← hn] at HX
      have hw := HI.out x
      rw [← hn] at hw
      have vb := wd_bd n
      have HVV := Lib.hid (fun w => HV.out n w)
      generalize wd n = d at *
      have hc : d.tmod 7 = d % 7 := Int.tmod_eq_emod_of_nonneg (by omega)
      obtain ⟨c, hcc⟩ : ∃ c, c = d % 7 := ⟨_, rfl⟩
      rw [← hcc] at hc hw
      have cb : 0 ≤ c ∧ c ≤ 6 := by omega
      have NN := Lib.hid hn
      clear HOO hn hcc
      by_cases hD : c = D
      · have g1 := eq_yes hD
        have ha : (x - 1 - A) % 7 = 0 := hw.1 hD
        by_cases hv : v < W9
        · obtain ⟨y1, y2⟩ := mn_yes F ab.1 ab.2 x1 ha (by rw [← V.out]; exact hv)
          have Y1 : Hid (v + 1 = mnN A W9 (x + 1)) := Lib.hid (by rw [y1, V.out])
          have Y2 : Hid (n = fdN F A W9 (x + 1)) := Lib.hid (by rw [y2, NN.out])
          have g2 := lt_yes hv
          clear hD ha y1 y2 hw vb cb
          go_upto_region 16 with (first
            | (go_at_call 33; refine (HM.out _).mono ?_; rintro e w1 ⟨rfl, hb⟩; have Q := Lib.hid (Q.out.step hb); clear hb; obtain ⟨⟨k1, k2, k3⟩, -⟩ := HH.out _ Q.out)
            | (go_at_call 34; refine (HX.out _).mono ?_; rintro e w2 ⟨rfl, hb⟩; have Q := Lib.hid (Q.out.step hb); clear hb; obtain ⟨⟨k1, k2, k3⟩, -⟩ := HH.out _ Q.out))
          have hKD : Kq16 W0 w2.drew := ⟨Q.out.bel.drew⟩
          go_region_held3 (fun W => (W.cell? ⟨w.heap.size, 1, none⟩ = some (.int .i64 M) ∧ W.cell? ⟨w.heap.size, 2, none⟩ = some (.int .i64 W9) ∧ W.cell? ⟨w.heap.size, 3, none⟩ = some (.int .i64 D)) ∧ Kq16 W0 W)
            (exact HH.out _ (by assumption))
            ((go_at_call 35; go_split_ands; (with_reducible refine (HVV.out _).mono ?_); rintro er wr9 ⟨rfl, hq⟩; have hkr : Kq16 W0 wr9 := Kq16.step (by assumption) hq; clear hq))
          have Q1 : Hid (Kq16 W0 _) := Lib.hid (by assumption)
          clear hKD k1 k2 k3
          go_wp2_with fail
          go_roundg (L + 1 - (x + 1)).toNat
          case measure => omega
          case rel => exact ⟨n, v + 1, x + 1, rfl, rfl, rfl, by omega, by omega, by omega, by omega, by omega, Y2, Y1, Q1⟩
        · obtain ⟨y1, y2⟩ := mn_no F ab.1 ab.2 x1 (Or.inr (by rw [← V.out]; exact hv))
          have Y1 : Hid (v = mnN A W9 (x + 1)) := Lib.hid (by rw [y1, V.out])
          have Y2 : Hid (u = fdN F A W9 (x + 1)) := Lib.hid (by rw [y2, U.out])
          have g2 := lt_no hv
          clear hD ha y1 y2 hw vb cb hv
          go_upto_region 16 with (first
            | (go_at_call 33; refine (HM.out _).mono ?_; rintro e w1 ⟨rfl, hb⟩; have Q := Lib.hid (Q.out.step hb); clear hb; obtain ⟨⟨k1, k2, k3⟩, -⟩ := HH.out _ Q.out)
            | (go_at_call 34; refine (HX.out _).mono ?_; rintro e w2 ⟨rfl, hb⟩; have Q := Lib.hid (Q.out.step hb); clear hb; obtain ⟨⟨k1, k2, k3⟩, -⟩ := HH.out _ Q.out))
          have hKD : Kq16 W0 w2.drew := ⟨Q.out.bel.drew⟩
          go_region_held3 (fun W => (W.cell? ⟨w.heap.size, 1, none⟩ = some (.int .i64 M) ∧ W.cell? ⟨w.heap.size, 2, none⟩ = some (.int .i64 W9) ∧ W.cell? ⟨w.heap.size, 3, none⟩ = some (.int .i64 D)) ∧ Kq16 W0 W)
            (exact HH.out _ (by assumption))
            ((go_at_call 35; go_split_ands; (with_reducible refine (HVV.out _).mono ?_); rintro er wr9 ⟨rfl, hq⟩; have hkr : Kq16 W0 wr9 := Kq16.step (by assumption) hq; clear hq))
          have Q1 : Hid (Kq16 W0 _) := Lib.hid (by assumption)
          clear hKD k1 k2 k3
          go_wp2_with fail
          go_roundg (L + 1 - (x + 1)).toNat
          case measure => omega
          case rel => exact ⟨u, v, x + 1, rfl, rfl, rfl, by omega, by omega, by omega, by omega, by omega, Y2, Y1, Q1⟩
      · have g1 := eq_no hD
        have ha : (x - 1 - A) % 7 ≠ 0 := fun h => hD (hw.2 h)
        obtain ⟨y1, y2⟩ := mn_no (w := W9) F ab.1 ab.2 x1 (Or.inl ha)
        have Y1 : Hid (v = mnN A W9 (x + 1)) := Lib.hid (by rw [y1, V.out])
        have Y2 : Hid (u = fdN F A W9 (x + 1)) := Lib.hid (by rw [y2, U.out])
        clear hD ha y1 y2 hw
        go_upto_region 16 with (first
          | (go_at_call 33; refine (HM.out _).mono ?_; rintro e w1 ⟨rfl, hb⟩; have Q := Lib.hid (Q.out.step hb); clear hb; obtain ⟨⟨k1, k2, k3⟩, -⟩ := HH.out _ Q.out)
          | (go_at_call 34; refine (HX.out _).mono ?_; rintro e w2 ⟨rfl, hb⟩; have Q := Lib.hid (Q.out.step hb); clear hb; obtain ⟨⟨k1, k2, k3⟩, -⟩ := HH.out _ Q.out))
        have hKD : Kq16 W0 w2.drew := ⟨Q.out.bel.drew⟩
        refine wp_region_held_drew (S := (fun W => (W.cell? ⟨w.heap.size, 1, none⟩ = some (.int .i64 M) ∧ W.cell? ⟨w.heap.size, 2, none⟩ = some (.int .i64 W9) ∧ W.cell? ⟨w.heap.size, 3, none⟩ = some (.int .i64 D)) ∧ Kq16 W0 W)) (by kernel_rfl) (HH.out _ hKD) (fun hHeld => ?_)
        refine wpAnyH_take (i := 0) (v := .int .i64 n) rfl (by kernel_rfl) (by kernel_rfl) (by kernel_rfl) (fun _ _ _ h => h) (Or.inl ⟨by rfl, fun w hSw => by go_simp⟩) hHeld ?_
        try simp only [Act.put, List.setIfInBounds_toArray, List.set_cons_zero, List.set_cons_succ, List.getElem_toArray, List.getElem_cons_succ, List.getElem_cons_zero]
        refine wpAnyH_take (i := 3) (v := .pointer (some ⟨w.heap.size, 3, none⟩)) rfl (by kernel_rfl) (by kernel_rfl) (by kernel_rfl) (fun _ _ _ h => h) (Or.inl ⟨by rfl, fun w hSw => by go_simp⟩) hHeld ?_
        try simp only [Act.put, List.setIfInBounds_toArray, List.set_cons_zero, List.set_cons_succ, List.getElem_toArray, List.getElem_cons_succ, List.getElem_cons_zero]
        refine wpAnyH_take (i := 4) (v := .int .i64 D) rfl (by kernel_rfl) (by kernel_rfl) (by kernel_rfl) (fun _ _ _ h => h) (Or.inl ⟨by rfl, fun w hSw => by obtain ⟨⟨s1, s2, s3⟩, -⟩ := hSw; go_simp⟩) hHeld ?_
        try simp only [Act.put, List.setIfInBounds_toArray, List.set_cons_zero, List.set_cons_succ, List.getElem_toArray, List.getElem_cons_succ, List.getElem_cons_zero]
        refine wpAnyH_ready (rs := [1]) (by kernel_rfl) (by simp) ?_
        refine AllReadyH.cons rfl (fun K hK => ?_) AllReadyH.nil
        have HK := Lib.hid hK; clear hK
        go_simp
        (go_at_call 35; refine (HVV.out _).mono ?_; rintro er wr9 ⟨rfl, hq⟩; have hkr : Kq16 W0 wr9 := Kq16.step hKD hq; clear hq)
        refine HK.out _ _ (HH.out _ hkr) (fun hHeld => ?_)
        clear HK K
        try simp only [Act.put, List.setIfInBounds_toArray, List.set_cons_zero, List.set_cons_succ, List.getElem_toArray, List.getElem_cons_succ, List.getElem_cons_zero]
        refine wpAnyH_take (i := 2) (v := .int .i64 c) rfl (by kernel_rfl) (by kernel_rfl) (by kernel_rfl) (fun _ _ _ h => h) (Or.inl ⟨by rfl, fun w hSw => by go_simp⟩) hHeld ?_
        try simp only [Act.put, List.setIfInBounds_toArray, List.set_cons_zero, List.set_cons_succ, List.getElem_toArray, List.getElem_cons_succ, List.getElem_cons_zero]
        refine wpAnyH_take (i := 5) (v := .bool false) rfl (by kernel_rfl) (by kernel_rfl) (by kernel_rfl) (fun _ _ _ h => h) (Or.inl ⟨by rfl, fun w hSw => by go_simp⟩) hHeld ?_
        try simp only [Act.put, List.setIfInBounds_toArray, List.set_cons_zero, List.set_cons_succ, List.getElem_toArray, List.getElem_cons_succ, List.getElem_cons_zero]
        refine wpAnyH_take (i := 6) (v := .bool false) rfl (by kernel_rfl) (by kernel_rfl) (by kernel_rfl) (fun _ _ _ h => h) (Or.inl ⟨by rfl, fun w hSw => by go_simp⟩) hHeld ?_
        try simp only [Act.put, List.setIfInBounds_toArray, List.set_cons_zero, List.set_cons_succ, List.getElem_toArray, List.getElem_cons_succ, List.getElem_cons_zero]
        refine wpAnyH_take (i := 7) (v := undef) rfl (by kernel_rfl) (by kernel_rfl) (by kernel_rfl) (fun _ _ _ h => h) (Or.inr ⟨by rfl, rfl⟩) hHeld ?_
        try simp only [Act.put, List.setIfInBounds_toArray, List.set_cons_zero, List.set_cons_succ, List.getElem_toArray, List.getElem_cons_succ, List.getElem_cons_zero]
        refine wpAnyH_take (i := 8) (v := undef) rfl (by kernel_rfl) (by kernel_rfl) (by kernel_rfl) (fun _ _ _ h => h) (Or.inr ⟨by rfl, rfl⟩) hHeld ?_
        try simp only [Act.put, List.setIfInBounds_toArray, List.set_cons_zero, List.set_cons_succ, List.getElem_toArray, List.getElem_cons_succ, List.getElem_cons_zero]
        refine wpAnyH_take (i := 9) (v := undef) rfl (by kernel_rfl) (by kernel_rfl) (by kernel_rfl) (fun _ _ _ h => h) (Or.inr ⟨by rfl, rfl⟩) hHeld ?_
        try simp only [Act.put, List.setIfInBounds_toArray, List.set_cons_zero, List.set_cons_succ, List.getElem_toArray, List.getElem_cons_succ, List.getElem_cons_zero]
        refine wpAnyH_take (i := 10) (v := undef) rfl (by kernel_rfl) (by kernel_rfl) (by kernel_rfl) (fun _ _ _ h => h) (Or.inr ⟨by rfl, rfl⟩) hHeld ?_
        try simp only [Act.put, List.setIfInBounds_toArray, List.set_cons_zero, List.set_cons_succ, List.getElem_toArray, List.getElem_cons_succ, List.getElem_cons_zero]
        refine wpAnyH_take (i := 11) (v := .bool false) rfl (by kernel_rfl) (by kernel_rfl) (by kernel_rfl) (fun _ _ _ h => h) (Or.inl ⟨by rfl, fun w hSw => by go_simp⟩) hHeld ?_
        try simp only [Act.put, List.setIfInBounds_toArray, List.set_cons_zero, List.set_cons_succ, List.getElem_toArray, List.getElem_cons_succ, List.getElem_cons_zero]
        refine wpAnyH_done (by kernel_rfl) ?_ _
        have Q1 : Hid (Kq16 W0 _) := Lib.hid hkr
        clear hKD hkr hHeld k1 k2 k3
        go_wp2_with fail
        go_roundg (L + 1 - (x + 1)).toNat
        case measure => omega
        case rel => exact ⟨u, v, x + 1, rfl, rfl, rfl, by omega, by omega, by omega, by omega, by omega, Y2, Y1, Q1⟩
    · have e : x = L + 1 := by omega
      subst e
      have t1 := le_no hlt
      go_wp2_with (go_at_call 33; refine (HM.out _).mono ?_; rintro e w1 ⟨rfl, hb⟩; have Q := Lib.hid (Q.out.step hb); clear hb)
      go_ret
      exact ⟨ret1_eq (int_eq U.out), B0.out.trans (Q.out.bel.mono B0.out.size)⟩
end Go.Proofs.YtlngnllcjfbicaaDoor
