/- The law RuleWeeks, walked. -/
import Derived.Test.YtlngnllcjfbicaaDoorRulL
import Derived.Test.YtlngnllcjfbicaaDoorDayD
import Derived.Test.YtlngnllcjfbicaaDoorThree
namespace Go.Proofs.YtlngnllcjfbicaaDoor
open Go.RowKit
set_option linter.unusedVariables false
set_option linter.unusedSimpArgs false

theorem day_three (M W D y : Int) (w : World) (he : Ends w) :
    Calls Tryd.prog 9 #[.agg #[.int .i64 3, .int .i64 M, .int .i64 W, .int .i64 D, .int .i64 0], .int .i64 y] w fun e w' => e = .returned (.tuple #[.int .i64 (duN ⟨3, M, W, D, 0⟩ y), ev (duE ⟨3, M, W, D, 0⟩ y)]) ∧ Below w.heap.size w w' := day16_any ⟨3, M, W, D, 0⟩ y w he

set_option maxHeartbeats 4000000 in
theorem weeks16_walk (M W D y : Int) (w : World) (he : Ends w) (hM : fits M) (hW : fits W) (hD : fits D) (hy : fits y) :
    Calls Tryd.prog 7 #[.agg #[.int .i64 M, .int .i64 W, .int .i64 D], .int .i64 y] w fun x w' => x = .returned (.bool true) ∧ Below w.heap.size w w' := by
  have q0 := fun op t W x k => guard_ev op t W x k
  have q2 := fun W k => neq_ev W k
  obtain ⟨W0, hW0⟩ : ∃ W0, W0 = w.alloc (.cells #[.int .i64 M, .int .i64 W, .int .i64 D] 53) := ⟨_, rfl⟩
  have B0 : Hid (Below w.heap.size w W0) := Lib.hid (by rw [hW0]; exact bel16 w _)
  have L0 : W0.heap[w.heap.size]? = some (.cells #[.int .i64 M, .int .i64 W, .int .i64 D] 53 (0, 0)) := by rw [hW0]; exact heap_alloc_new w _
  have L := Lib.hid L0
  have E0 := Lib.hid (he.below B0.out)
  have HA := Lib.hid (alive16_any W0 E0.out)
  have HD := Lib.hid (fun w he => day_three M W D y w he)
  clear L0 he
  by_cases c : duE ⟨3, M, W, D, 0⟩ y = 0
  · have e1 : duN ⟨3, M, W, D, 0⟩ y = st y + psN y ⟨3, M, W, D, 0⟩ := if_pos c
    rw [c, e1] at HD
    obtain ⟨hr, hyr⟩ : ruE ⟨3, M, W, D, 0⟩ = 0 ∧ yrP y := by
      rcases duE_cases ⟨3, M, W, D, 0⟩ y with ⟨a, b⟩ | ⟨a, b, c⟩ | ⟨a, b, c⟩
      · omega
      · omega
      · exact ⟨a, b⟩
    have k3 := ruE_kinds hr
    simp only at k3
    have m1 : 1 ≤ M ∧ M ≤ 12 := by omega
    have w1 : 1 ≤ W ∧ W ≤ 5 := by omega
    have d1 : 0 ≤ D ∧ D ≤ 6 := by omega
    have hp : psN y ⟨3, M, W, D, 0⟩ = em y (M - 1) + ahN y ⟨3, M, W, D, 0⟩ := if_pos rfl
    rw [hp] at HD
    unfold yrP at hyr
    by_cases iy : isy y
    · have dt : Dt (st y + (em y (M - 1) + ahN y ⟨3, M, W, D, 0⟩)) y M (ahN y ⟨3, M, W, D, 0⟩ + 1) := dt_rule (r := ⟨3, M, W, D, 0⟩) iy m1.1 m1.2 w1.1 w1.2
      obtain ⟨v1, v2⟩ := wk_place (y := y) (r := ⟨3, M, W, D, 0⟩) m1.1 m1.2 w1.1 w1.2 d1.1 d1.2
      simp only at v1 v2
      have ab := ah_bd (y := y) (r := ⟨3, M, W, D, 0⟩) m1.1 m1.2 w1.1 w1.2
      have lb := ml_bd y m1.1 m1.2
      simp only at ab
      have HT := Lib.hid (fun w he => date_some _ y M _ w dt he)
      have HV := fun w => weekday_any (st y + (em y (M - 1) + ahN y ⟨3, M, W, D, 0⟩)) w
      have HM := fun w he => month_any y M w he
      have n1 : ckm y M = 0 := by unfold ckm; rw [if_pos iy, if_neg (by omega)]
      have n2 : mlR y M = ml y M := if_pos n1
      rw [n1, n2] at HM
      have vb := wd_bd (st y + (em y (M - 1) + ahN y ⟨3, M, W, D, 0⟩))
      have HM' := Lib.hid HM
      generalize wd (st y + (em y (M - 1) + ahN y ⟨3, M, W, D, 0⟩)) = v at *
      have HV' := Lib.hid HV
      clear HM HV hp e1 dt n1 n2 k3 hr c
      generalize st y + (em y (M - 1) + ahN y ⟨3, M, W, D, 0⟩) = n at *
      obtain ⟨d, hd⟩ : ∃ d, d = ahN y ⟨3, M, W, D, 0⟩ + 1 := ⟨_, rfl⟩
      rw [← hd] at HT v2
      have db : 1 ≤ d ∧ d ≤ 31 := by omega
      generalize ml y M = L9 at *
      clear hd ab
      have r1 : (v % 7 != D) = false := ne_no v1
      have r1' : (v.tmod 7) = v % 7 := Int.tmod_eq_emod_of_nonneg (by omega)
      by_cases g : (d - 1) / 7 = W - 1
      · have t1 := eq_yes g
        clear g v2 v1 iy hyr
        go_enter Tryd.func7, Tryd.ntmps7
        go_upto_region 1 with fail
        rw [← hW0]; clear hW0
        go_upto_region 3 with (go_at_call 8; refine HA.out.mono ?_; rintro x wa ⟨rfl, hb⟩; have La := Lib.hid (bel_keep hb L.out); have Ea := Lib.hid (E0.out.below hb); have Ba := Lib.hid (B0.out.trans (hb.mono B0.out.size)); clear hb)
        have l0 := bk_cell La.out 0
        have l1 := bk_cell La.out 1
        have l2 := bk_cell La.out 2
        go_quiet (fail)
        have E := Lib.hid (Ea.out.below (below_dn16 (Below.refl _ wa) nq))
        have B := Lib.hid (below_dn16 Ba.out nq)
        obtain ⟨W2, hW2⟩ : ∃ W2, W2 = wa.drewN nq := ⟨_, rfl⟩
        rw [← hW2] at E B
        rw [← hW2]
        clear hW2 l0 l1 l2
        go_wp2_with (first
          | (go_at_call 9; refine (HD.out _ E.out).mono ?_; rintro x w3 ⟨rfl, hb⟩; have E := Lib.hid (E.out.below hb); have B := Lib.hid (B.out.trans (hb.mono B.out.size)); clear hb)
          | (go_at_call 25; refine (HT.out _ E.out).mono ?_; rintro x w4 ⟨rfl, hb⟩; have E := Lib.hid (E.out.below hb); have B := Lib.hid (B.out.trans (hb.mono B.out.size)); clear hb)
          | (go_at_call 26; refine (HM'.out _ E.out).mono ?_; rintro x w5 ⟨rfl, rfl⟩)
          | (go_at_call 27; refine (HV'.out _).mono ?_; rintro x w6 ⟨rfl, rfl⟩))
        go_ret
        exact ⟨rfl, B.out⟩
      · have t1 := eq_no g
        have t2 : (W == 5) = true := eq_yes (by omega)
        have t3 : decide (L9 < d + 7) = true := lt_yes (by omega)
        clear g v2 v1 iy hyr
        go_enter Tryd.func7, Tryd.ntmps7
        go_upto_region 1 with fail
        rw [← hW0]; clear hW0
        go_upto_region 3 with (go_at_call 8; refine HA.out.mono ?_; rintro x wa ⟨rfl, hb⟩; have La := Lib.hid (bel_keep hb L.out); have Ea := Lib.hid (E0.out.below hb); have Ba := Lib.hid (B0.out.trans (hb.mono B0.out.size)); clear hb)
        have l0 := bk_cell La.out 0
        have l1 := bk_cell La.out 1
        have l2 := bk_cell La.out 2
        go_quiet (fail)
        have E := Lib.hid (Ea.out.below (below_dn16 (Below.refl _ wa) nq))
        have B := Lib.hid (below_dn16 Ba.out nq)
        obtain ⟨W2, hW2⟩ : ∃ W2, W2 = wa.drewN nq := ⟨_, rfl⟩
        rw [← hW2] at E B
        rw [← hW2]
        clear hW2 l0 l1 l2
        go_wp2_with (first
          | (go_at_call 9; refine (HD.out _ E.out).mono ?_; rintro x w3 ⟨rfl, hb⟩; have E := Lib.hid (E.out.below hb); have B := Lib.hid (B.out.trans (hb.mono B.out.size)); clear hb)
          | (go_at_call 25; refine (HT.out _ E.out).mono ?_; rintro x w4 ⟨rfl, hb⟩; have E := Lib.hid (E.out.below hb); have B := Lib.hid (B.out.trans (hb.mono B.out.size)); clear hb)
          | (go_at_call 26; refine (HM'.out _ E.out).mono ?_; rintro x w5 ⟨rfl, rfl⟩)
          | (go_at_call 27; refine (HV'.out _).mono ?_; rintro x w6 ⟨rfl, rfl⟩))
        go_ret
        exact ⟨rfl, B.out⟩
    · have ab := ah_bd (y := y) (r := ⟨3, M, W, D, 0⟩) m1.1 m1.2 w1.1 w1.2
      have eb := em_bd y (m := M - 1) (by omega) (by omega)
      have es := em_succ y M
      have el := em_le y (m := M) (by omega) m1.2
      simp only at ab
      have far := far_rule (y := y) (p := em y (M - 1) + ahN y ⟨3, M, W, D, 0⟩) iy (by omega) (by omega)
      have HT := Lib.hid (fun w (_ : True) => date_none (st y + (em y (M - 1) + ahN y ⟨3, M, W, D, 0⟩)) w far)
      clear far ab eb es el hp e1 k3 hr c
      generalize st y + (em y (M - 1) + ahN y ⟨3, M, W, D, 0⟩) = n at *
      unfold isy at iy
      by_cases g : y < -9999
      · have t1 := lt_yes g
        clear iy g hyr
        go_enter Tryd.func7, Tryd.ntmps7
        go_upto_region 1 with fail
        rw [← hW0]; clear hW0
        go_upto_region 3 with (go_at_call 8; refine HA.out.mono ?_; rintro x wa ⟨rfl, hb⟩; have La := Lib.hid (bel_keep hb L.out); have Ea := Lib.hid (E0.out.below hb); have Ba := Lib.hid (B0.out.trans (hb.mono B0.out.size)); clear hb)
        have l0 := bk_cell La.out 0
        have l1 := bk_cell La.out 1
        have l2 := bk_cell La.out 2
        go_quiet (fail)
        have E := Lib.hid (Ea.out.below (below_dn16 (Below.refl _ wa) nq))
        have B := Lib.hid (below_dn16 Ba.out nq)
        obtain ⟨W2, hW2⟩ : ∃ W2, W2 = wa.drewN nq := ⟨_, rfl⟩
        rw [← hW2] at E B
        rw [← hW2]
        clear hW2 l0 l1 l2
        go_wp2_with (first
          | (go_at_call 9; refine (HD.out _ E.out).mono ?_; rintro x w3 ⟨rfl, hb⟩; have E := Lib.hid (E.out.below hb); have B := Lib.hid (B.out.trans (hb.mono B.out.size)); clear hb)
          | (go_at_call 25; refine (HT.out _ trivial).mono ?_; rintro x w4 ⟨rfl, rfl⟩))
        go_ret
        exact ⟨rfl, B.out⟩
      · have t1 := lt_no g
        have t2 : decide (9999 < y) = true := lt_yes (by omega)
        clear iy g hyr
        go_enter Tryd.func7, Tryd.ntmps7
        go_upto_region 1 with fail
        rw [← hW0]; clear hW0
        go_upto_region 3 with (go_at_call 8; refine HA.out.mono ?_; rintro x wa ⟨rfl, hb⟩; have La := Lib.hid (bel_keep hb L.out); have Ea := Lib.hid (E0.out.below hb); have Ba := Lib.hid (B0.out.trans (hb.mono B0.out.size)); clear hb)
        have l0 := bk_cell La.out 0
        have l1 := bk_cell La.out 1
        have l2 := bk_cell La.out 2
        go_quiet (fail)
        have E := Lib.hid (Ea.out.below (below_dn16 (Below.refl _ wa) nq))
        have B := Lib.hid (below_dn16 Ba.out nq)
        obtain ⟨W2, hW2⟩ : ∃ W2, W2 = wa.drewN nq := ⟨_, rfl⟩
        rw [← hW2] at E B
        rw [← hW2]
        clear hW2 l0 l1 l2
        go_wp2_with (first
          | (go_at_call 9; refine (HD.out _ E.out).mono ?_; rintro x w3 ⟨rfl, hb⟩; have E := Lib.hid (E.out.below hb); have B := Lib.hid (B.out.trans (hb.mono B.out.size)); clear hb)
          | (go_at_call 25; refine (HT.out _ trivial).mono ?_; rintro x w4 ⟨rfl, rfl⟩))
        go_ret
        exact ⟨rfl, B.out⟩
  · have e1 : duN ⟨3, M, W, D, 0⟩ y = 0 := if_neg c
    rw [e1] at HD
    have t1 := ne_yes c
    generalize duE ⟨3, M, W, D, 0⟩ y = K at *
    clear c e1
    go_enter Tryd.func7, Tryd.ntmps7
    go_upto_region 1 with fail
    rw [← hW0]; clear hW0
    go_upto_region 3 with (go_at_call 8; refine HA.out.mono ?_; rintro x wa ⟨rfl, hb⟩; have La := Lib.hid (bel_keep hb L.out); have Ea := Lib.hid (E0.out.below hb); have Ba := Lib.hid (B0.out.trans (hb.mono B0.out.size)); clear hb)
    have l0 := bk_cell La.out 0
    have l1 := bk_cell La.out 1
    have l2 := bk_cell La.out 2
    go_quiet (fail)
    have E := Lib.hid (Ea.out.below (below_dn16 (Below.refl _ wa) nq))
    have B := Lib.hid (below_dn16 Ba.out nq)
    obtain ⟨W2, hW2⟩ : ∃ W2, W2 = wa.drewN nq := ⟨_, rfl⟩
    rw [← hW2] at E B
    rw [← hW2]
    clear hW2 l0 l1 l2
    go_wp2_with (go_at_call 9; refine (HD.out _ E.out).mono ?_; rintro x w3 ⟨rfl, hb⟩; have E := Lib.hid (E.out.below hb); have B := Lib.hid (B.out.trans (hb.mono B.out.size)); clear hb)
    go_ret
    exact ⟨rfl, B.out⟩
end Go.Proofs.YtlngnllcjfbicaaDoor
