/- The law RuleDays, walked. (Written by gen_rulu.py.) -/
import Derived.Test.YtlngnllcjfbicaaDoorRulT
import Derived.Test.YtlngnllcjfbicaaDoorRulL
import Derived.Test.YtlngnllcjfbicaaDoorRulR
namespace Go.Proofs.YtlngnllcjfbicaaDoor
open Go.RowKit
set_option linter.unusedVariables false
set_option linter.unusedSimpArgs false

theorem rday16_any (r : Ru) (y : Int) (w : World) (hr : ruE r = 0) (hy : yrP y) :
    Calls Tryd.prog 15 #[.agg r.cells, .int .i64 y] w fun e w' => e = .returned (.int .i64 (st y + psN y r)) ∧ Below w.heap.size w w' := by
  rcases ruE_kinds hr with h | h | h
  · exact rday16_one r y w hr hy h.1
  · exact rday16_two r y w hr hy h.1
  · exact rday16_three r y w hr hy h.1
set_option maxHeartbeats 4000000 in
theorem days16_kind (r : Ru) (y : Int) (w : World) (he : Ends w) (ha : ruE r ≠ 0) :
    Calls Tryd.prog 3 #[.agg r.cells, .int .i64 y] w fun x w' => x = .returned (.bool true) ∧ Below w.heap.size w w' := by
  have q0 := fun op t W x k => guard_ev op t W x k
  have q1 := fun W k => eql_ev W k
  have q2 := fun W k => neq_ev W k
  obtain ⟨W0, hW0⟩ : ∃ W0, W0 = w.alloc (.cells r.cells 23) := ⟨_, rfl⟩
  have B : Hid (Below w.heap.size w W0) := Lib.hid (by rw [hW0]; exact bel16 w _)
  have L0 : Rk W0 w.heap.size r := by rw [hW0]; exact rk_new _ _
  have R := Lib.hid L0
  have E := Lib.hid (he.below B.out)
  have HA := Lib.hid (fun w he => alive16_any w he)
  have HD : Hid (∀ w, Ends w → Calls Tryd.prog 9 #[.agg #[.int .i64 r.K, .int .i64 r.M, .int .i64 r.W, .int .i64 r.D, .int .i64 r.T], .int .i64 y] w fun e w' => e = .returned (.tuple #[.int .i64 (duN r y), ev (duE r y)]) ∧ Below w.heap.size w w') := Lib.hid (fun w he => day16_any r y w he)
  have HT : Hid (∀ w, Ends w → Calls Tryd.prog 10 #[.agg #[.int .i64 r.K, .int .i64 r.M, .int .i64 r.W, .int .i64 r.D, .int .i64 r.T], .int .i64 y] w fun e w' => e = .returned (.tuple #[.int .i64 (duS r y), ev (duE r y)]) ∧ Below w.heap.size w w') := Lib.hid (fun w he => at16_any r y w he)
  have HX : Hid (∀ w, Calls Tryd.prog 14 #[.agg #[.int .i64 r.K, .int .i64 r.M, .int .i64 r.W, .int .i64 r.D, .int .i64 r.T]] w fun e w' => e = .returned (ev (ruE r)) ∧ Below w.heap.size w w') := Lib.hid (fun w => check_any r w)
  have HC : Hid (∀ w, Calls Tryd.prog 12 #[.agg #[.int .i64 r.K, .int .i64 r.M, .int .i64 r.W, .int .i64 r.D, .int .i64 r.T]] w fun e w' => e = .returned (.agg #[.int .i64 r.K, .int .i64 r.M, .int .i64 r.W, .int .i64 r.D, .int .i64 r.T]) ∧ Below w.heap.size w w') := Lib.hid (fun w => document_any r w)
  have HK : Hid (∀ w, Calls Tryd.prog 11 #[.agg #[.int .i64 r.K, .int .i64 r.M, .int .i64 r.W, .int .i64 r.D, .int .i64 r.T]] w fun e w' => e = .returned (.int .i64 (ruE r)) ∧ Below w.heap.size w w') := Lib.hid (fun w => rchk16_any r w)
  have eb := ruE_bd r
  have d : duE r y = ruE r := if_pos ha
  have d1 : duN r y = 0 := if_neg (by omega)
  have d2 : duS r y = 0 := if_neg (by omega)
  rw [d, d1] at HD
  rw [d, d2] at HT
  generalize ruE r = F at *
  have HN := Lib.hid (fun w => num_any F w eb.1 eb.2)
  have t1 := eq_no ha
  have t2 := ne_yes ha
  clear d d1 d2 ha eb he L0
  go_enter Tryd.func3, Tryd.ntmps3
  go_upto_region 1 with fail
  rw [← hW0]; clear hW0
  go_wp2_with (first
    | (go_at_call 8; refine (HA.out _ E.out).mono ?_; rintro x w1 ⟨rfl, hb⟩; have R := Lib.hid (R.out.keep hb); have E := Lib.hid (E.out.below hb); have B := Lib.hid (B.out.trans (hb.mono B.out.size)); clear hb; obtain ⟨c0, c1, c2, c3, c4⟩ := R.out.all)
    | (go_at_call 9; refine (HD.out _ E.out).mono ?_; rintro x w2 ⟨rfl, hb⟩; have R := Lib.hid (R.out.keep hb); have E := Lib.hid (E.out.below hb); have B := Lib.hid (B.out.trans (hb.mono B.out.size)); clear hb; obtain ⟨c0, c1, c2, c3, c4⟩ := R.out.all)
    | (go_at_call 10; refine (HT.out _ E.out).mono ?_; rintro x w3 ⟨rfl, hb⟩; have R := Lib.hid (R.out.keep hb); have E := Lib.hid (E.out.below hb); have B := Lib.hid (B.out.trans (hb.mono B.out.size)); clear hb; obtain ⟨c0, c1, c2, c3, c4⟩ := R.out.all)
    | (go_at_call 12; refine (HC.out _).mono ?_; rintro x w4 ⟨rfl, hb⟩; have R := Lib.hid (R.out.keep hb); have E := Lib.hid (E.out.below hb); have B := Lib.hid (B.out.trans (hb.mono B.out.size)); clear hb; obtain ⟨c0, c1, c2, c3, c4⟩ := R.out.all)
    | (go_at_call 11; refine (HK.out _).mono ?_; rintro x w5 ⟨rfl, hb⟩; have R := Lib.hid (R.out.keep hb); have E := Lib.hid (E.out.below hb); have B := Lib.hid (B.out.trans (hb.mono B.out.size)); clear hb; obtain ⟨c0, c1, c2, c3, c4⟩ := R.out.all)
    | (go_at_call 14; refine (HX.out _).mono ?_; rintro x w6 ⟨rfl, hb⟩; have R := Lib.hid (R.out.keep hb); have E := Lib.hid (E.out.below hb); have B := Lib.hid (B.out.trans (hb.mono B.out.size)); clear hb; obtain ⟨c0, c1, c2, c3, c4⟩ := R.out.all)
    | (go_at_call 13; with_reducible refine (HN.out _).mono ?_; rintro x w7 ⟨rfl, rfl⟩))
  go_ret
  exact ⟨rfl, B.out⟩
set_option maxHeartbeats 4000000 in
theorem days16_low (r : Ru) (y : Int) (w : World) (he : Ends w) (ha : ruE r = 0) (hy : y < -10001) :
    Calls Tryd.prog 3 #[.agg r.cells, .int .i64 y] w fun x w' => x = .returned (.bool true) ∧ Below w.heap.size w w' := by
  have q0 := fun op t W x k => guard_ev op t W x k
  have q1 := fun W k => eql_ev W k
  have q2 := fun W k => neq_ev W k
  obtain ⟨W0, hW0⟩ : ∃ W0, W0 = w.alloc (.cells r.cells 23) := ⟨_, rfl⟩
  have B : Hid (Below w.heap.size w W0) := Lib.hid (by rw [hW0]; exact bel16 w _)
  have L0 : Rk W0 w.heap.size r := by rw [hW0]; exact rk_new _ _
  have R := Lib.hid L0
  have E := Lib.hid (he.below B.out)
  have HA := Lib.hid (fun w he => alive16_any w he)
  have HD : Hid (∀ w, Ends w → Calls Tryd.prog 9 #[.agg #[.int .i64 r.K, .int .i64 r.M, .int .i64 r.W, .int .i64 r.D, .int .i64 r.T], .int .i64 y] w fun e w' => e = .returned (.tuple #[.int .i64 (duN r y), ev (duE r y)]) ∧ Below w.heap.size w w') := Lib.hid (fun w he => day16_any r y w he)
  have HT : Hid (∀ w, Ends w → Calls Tryd.prog 10 #[.agg #[.int .i64 r.K, .int .i64 r.M, .int .i64 r.W, .int .i64 r.D, .int .i64 r.T], .int .i64 y] w fun e w' => e = .returned (.tuple #[.int .i64 (duS r y), ev (duE r y)]) ∧ Below w.heap.size w w') := Lib.hid (fun w he => at16_any r y w he)
  have HX : Hid (∀ w, Calls Tryd.prog 14 #[.agg #[.int .i64 r.K, .int .i64 r.M, .int .i64 r.W, .int .i64 r.D, .int .i64 r.T]] w fun e w' => e = .returned (ev (ruE r)) ∧ Below w.heap.size w w') := Lib.hid (fun w => check_any r w)
  have HC : Hid (∀ w, Calls Tryd.prog 12 #[.agg #[.int .i64 r.K, .int .i64 r.M, .int .i64 r.W, .int .i64 r.D, .int .i64 r.T]] w fun e w' => e = .returned (.agg #[.int .i64 r.K, .int .i64 r.M, .int .i64 r.W, .int .i64 r.D, .int .i64 r.T]) ∧ Below w.heap.size w w') := Lib.hid (fun w => document_any r w)
  have HK : Hid (∀ w, Calls Tryd.prog 11 #[.agg #[.int .i64 r.K, .int .i64 r.M, .int .i64 r.W, .int .i64 r.D, .int .i64 r.T]] w fun e w' => e = .returned (.int .i64 (ruE r)) ∧ Below w.heap.size w w') := Lib.hid (fun w => rchk16_any r w)
  have eb := ruE_bd r
  have d : duE r y = 13 := by unfold duE; rw [if_neg (by omega), if_neg (by unfold yrP; omega)]
  have d1 : duN r y = 0 := if_neg (by omega)
  have d2 : duS r y = 0 := if_neg (by omega)
  rw [d, d1] at HD
  rw [d, d2] at HT
  rw [ha] at HX HK
  have HN := Lib.hid (fun w => num_any 0 w (by decide) (by decide))
  have HM := Lib.hid (fun w => num_any 13 w (by decide) (by decide))
  have t1 := lt_yes hy
  clear d d1 d2 ha eb he L0 hy
  go_enter Tryd.func3, Tryd.ntmps3
  go_upto_region 1 with fail
  rw [← hW0]; clear hW0
  go_wp2_with (first
    | (go_at_call 8; refine (HA.out _ E.out).mono ?_; rintro x w1 ⟨rfl, hb⟩; have R := Lib.hid (R.out.keep hb); have E := Lib.hid (E.out.below hb); have B := Lib.hid (B.out.trans (hb.mono B.out.size)); clear hb; obtain ⟨c0, c1, c2, c3, c4⟩ := R.out.all)
    | (go_at_call 9; refine (HD.out _ E.out).mono ?_; rintro x w2 ⟨rfl, hb⟩; have R := Lib.hid (R.out.keep hb); have E := Lib.hid (E.out.below hb); have B := Lib.hid (B.out.trans (hb.mono B.out.size)); clear hb; obtain ⟨c0, c1, c2, c3, c4⟩ := R.out.all)
    | (go_at_call 10; refine (HT.out _ E.out).mono ?_; rintro x w3 ⟨rfl, hb⟩; have R := Lib.hid (R.out.keep hb); have E := Lib.hid (E.out.below hb); have B := Lib.hid (B.out.trans (hb.mono B.out.size)); clear hb; obtain ⟨c0, c1, c2, c3, c4⟩ := R.out.all)
    | (go_at_call 12; refine (HC.out _).mono ?_; rintro x w4 ⟨rfl, hb⟩; have R := Lib.hid (R.out.keep hb); have E := Lib.hid (E.out.below hb); have B := Lib.hid (B.out.trans (hb.mono B.out.size)); clear hb; obtain ⟨c0, c1, c2, c3, c4⟩ := R.out.all)
    | (go_at_call 11; refine (HK.out _).mono ?_; rintro x w5 ⟨rfl, hb⟩; have R := Lib.hid (R.out.keep hb); have E := Lib.hid (E.out.below hb); have B := Lib.hid (B.out.trans (hb.mono B.out.size)); clear hb; obtain ⟨c0, c1, c2, c3, c4⟩ := R.out.all)
    | (go_at_call 14; refine (HX.out _).mono ?_; rintro x w6 ⟨rfl, hb⟩; have R := Lib.hid (R.out.keep hb); have E := Lib.hid (E.out.below hb); have B := Lib.hid (B.out.trans (hb.mono B.out.size)); clear hb; obtain ⟨c0, c1, c2, c3, c4⟩ := R.out.all)
    | (go_at_call 13; with_reducible refine (HN.out _).mono ?_; rintro x w7 ⟨rfl, rfl⟩)
    | (go_at_call 13; with_reducible refine (HM.out _).mono ?_; rintro x w7 ⟨rfl, rfl⟩))
  go_ret
  exact ⟨rfl, B.out⟩
set_option maxHeartbeats 4000000 in
theorem days16_high (r : Ru) (y : Int) (w : World) (he : Ends w) (ha : ruE r = 0) (hy : ¬ y < -10001) (hy2 : 10001 < y) :
    Calls Tryd.prog 3 #[.agg r.cells, .int .i64 y] w fun x w' => x = .returned (.bool true) ∧ Below w.heap.size w w' := by
  have q0 := fun op t W x k => guard_ev op t W x k
  have q1 := fun W k => eql_ev W k
  have q2 := fun W k => neq_ev W k
  obtain ⟨W0, hW0⟩ : ∃ W0, W0 = w.alloc (.cells r.cells 23) := ⟨_, rfl⟩
  have B : Hid (Below w.heap.size w W0) := Lib.hid (by rw [hW0]; exact bel16 w _)
  have L0 : Rk W0 w.heap.size r := by rw [hW0]; exact rk_new _ _
  have R := Lib.hid L0
  have E := Lib.hid (he.below B.out)
  have HA := Lib.hid (fun w he => alive16_any w he)
  have HD : Hid (∀ w, Ends w → Calls Tryd.prog 9 #[.agg #[.int .i64 r.K, .int .i64 r.M, .int .i64 r.W, .int .i64 r.D, .int .i64 r.T], .int .i64 y] w fun e w' => e = .returned (.tuple #[.int .i64 (duN r y), ev (duE r y)]) ∧ Below w.heap.size w w') := Lib.hid (fun w he => day16_any r y w he)
  have HT : Hid (∀ w, Ends w → Calls Tryd.prog 10 #[.agg #[.int .i64 r.K, .int .i64 r.M, .int .i64 r.W, .int .i64 r.D, .int .i64 r.T], .int .i64 y] w fun e w' => e = .returned (.tuple #[.int .i64 (duS r y), ev (duE r y)]) ∧ Below w.heap.size w w') := Lib.hid (fun w he => at16_any r y w he)
  have HX : Hid (∀ w, Calls Tryd.prog 14 #[.agg #[.int .i64 r.K, .int .i64 r.M, .int .i64 r.W, .int .i64 r.D, .int .i64 r.T]] w fun e w' => e = .returned (ev (ruE r)) ∧ Below w.heap.size w w') := Lib.hid (fun w => check_any r w)
  have HC : Hid (∀ w, Calls Tryd.prog 12 #[.agg #[.int .i64 r.K, .int .i64 r.M, .int .i64 r.W, .int .i64 r.D, .int .i64 r.T]] w fun e w' => e = .returned (.agg #[.int .i64 r.K, .int .i64 r.M, .int .i64 r.W, .int .i64 r.D, .int .i64 r.T]) ∧ Below w.heap.size w w') := Lib.hid (fun w => document_any r w)
  have HK : Hid (∀ w, Calls Tryd.prog 11 #[.agg #[.int .i64 r.K, .int .i64 r.M, .int .i64 r.W, .int .i64 r.D, .int .i64 r.T]] w fun e w' => e = .returned (.int .i64 (ruE r)) ∧ Below w.heap.size w w') := Lib.hid (fun w => rchk16_any r w)
  have eb := ruE_bd r
  have d : duE r y = 13 := by unfold duE; rw [if_neg (by omega), if_neg (by unfold yrP; omega)]
  have d1 : duN r y = 0 := if_neg (by omega)
  have d2 : duS r y = 0 := if_neg (by omega)
  rw [d, d1] at HD
  rw [d, d2] at HT
  rw [ha] at HX HK
  have HN := Lib.hid (fun w => num_any 0 w (by decide) (by decide))
  have HM := Lib.hid (fun w => num_any 13 w (by decide) (by decide))
  have t1 := lt_no hy
  have t2 := lt_yes hy2
  clear d d1 d2 ha eb he L0 hy hy2
  go_enter Tryd.func3, Tryd.ntmps3
  go_upto_region 1 with fail
  rw [← hW0]; clear hW0
  go_wp2_with (first
    | (go_at_call 8; refine (HA.out _ E.out).mono ?_; rintro x w1 ⟨rfl, hb⟩; have R := Lib.hid (R.out.keep hb); have E := Lib.hid (E.out.below hb); have B := Lib.hid (B.out.trans (hb.mono B.out.size)); clear hb; obtain ⟨c0, c1, c2, c3, c4⟩ := R.out.all)
    | (go_at_call 9; refine (HD.out _ E.out).mono ?_; rintro x w2 ⟨rfl, hb⟩; have R := Lib.hid (R.out.keep hb); have E := Lib.hid (E.out.below hb); have B := Lib.hid (B.out.trans (hb.mono B.out.size)); clear hb; obtain ⟨c0, c1, c2, c3, c4⟩ := R.out.all)
    | (go_at_call 10; refine (HT.out _ E.out).mono ?_; rintro x w3 ⟨rfl, hb⟩; have R := Lib.hid (R.out.keep hb); have E := Lib.hid (E.out.below hb); have B := Lib.hid (B.out.trans (hb.mono B.out.size)); clear hb; obtain ⟨c0, c1, c2, c3, c4⟩ := R.out.all)
    | (go_at_call 12; refine (HC.out _).mono ?_; rintro x w4 ⟨rfl, hb⟩; have R := Lib.hid (R.out.keep hb); have E := Lib.hid (E.out.below hb); have B := Lib.hid (B.out.trans (hb.mono B.out.size)); clear hb; obtain ⟨c0, c1, c2, c3, c4⟩ := R.out.all)
    | (go_at_call 11; refine (HK.out _).mono ?_; rintro x w5 ⟨rfl, hb⟩; have R := Lib.hid (R.out.keep hb); have E := Lib.hid (E.out.below hb); have B := Lib.hid (B.out.trans (hb.mono B.out.size)); clear hb; obtain ⟨c0, c1, c2, c3, c4⟩ := R.out.all)
    | (go_at_call 14; refine (HX.out _).mono ?_; rintro x w6 ⟨rfl, hb⟩; have R := Lib.hid (R.out.keep hb); have E := Lib.hid (E.out.below hb); have B := Lib.hid (B.out.trans (hb.mono B.out.size)); clear hb; obtain ⟨c0, c1, c2, c3, c4⟩ := R.out.all)
    | (go_at_call 13; with_reducible refine (HN.out _).mono ?_; rintro x w7 ⟨rfl, rfl⟩)
    | (go_at_call 13; with_reducible refine (HM.out _).mono ?_; rintro x w7 ⟨rfl, rfl⟩))
  go_ret
  exact ⟨rfl, B.out⟩
set_option maxHeartbeats 4000000 in
theorem days16_good (r : Ru) (y : Int) (w : World) (he : Ends w) (ha : ruE r = 0) (hy : yrP y) :
    Calls Tryd.prog 3 #[.agg r.cells, .int .i64 y] w fun x w' => x = .returned (.bool true) ∧ Below w.heap.size w w' := by
  have q0 := fun op t W x k => guard_ev op t W x k
  have q1 := fun W k => eql_ev W k
  have q2 := fun W k => neq_ev W k
  obtain ⟨W0, hW0⟩ : ∃ W0, W0 = w.alloc (.cells r.cells 23) := ⟨_, rfl⟩
  have B : Hid (Below w.heap.size w W0) := Lib.hid (by rw [hW0]; exact bel16 w _)
  have L0 : Rk W0 w.heap.size r := by rw [hW0]; exact rk_new _ _
  have R := Lib.hid L0
  have E := Lib.hid (he.below B.out)
  have HA := Lib.hid (fun w he => alive16_any w he)
  have HD : Hid (∀ w, Ends w → Calls Tryd.prog 9 #[.agg #[.int .i64 r.K, .int .i64 r.M, .int .i64 r.W, .int .i64 r.D, .int .i64 r.T], .int .i64 y] w fun e w' => e = .returned (.tuple #[.int .i64 (duN r y), ev (duE r y)]) ∧ Below w.heap.size w w') := Lib.hid (fun w he => day16_any r y w he)
  have HT : Hid (∀ w, Ends w → Calls Tryd.prog 10 #[.agg #[.int .i64 r.K, .int .i64 r.M, .int .i64 r.W, .int .i64 r.D, .int .i64 r.T], .int .i64 y] w fun e w' => e = .returned (.tuple #[.int .i64 (duS r y), ev (duE r y)]) ∧ Below w.heap.size w w') := Lib.hid (fun w he => at16_any r y w he)
  have HX : Hid (∀ w, Calls Tryd.prog 14 #[.agg #[.int .i64 r.K, .int .i64 r.M, .int .i64 r.W, .int .i64 r.D, .int .i64 r.T]] w fun e w' => e = .returned (ev (ruE r)) ∧ Below w.heap.size w w') := Lib.hid (fun w => check_any r w)
  have HC : Hid (∀ w, Calls Tryd.prog 12 #[.agg #[.int .i64 r.K, .int .i64 r.M, .int .i64 r.W, .int .i64 r.D, .int .i64 r.T]] w fun e w' => e = .returned (.agg #[.int .i64 r.K, .int .i64 r.M, .int .i64 r.W, .int .i64 r.D, .int .i64 r.T]) ∧ Below w.heap.size w w') := Lib.hid (fun w => document_any r w)
  have HK : Hid (∀ w, Calls Tryd.prog 11 #[.agg #[.int .i64 r.K, .int .i64 r.M, .int .i64 r.W, .int .i64 r.D, .int .i64 r.T]] w fun e w' => e = .returned (.int .i64 (ruE r)) ∧ Below w.heap.size w w') := Lib.hid (fun w => rchk16_any r w)
  have eb := ruE_bd r
  have d : duE r y = 0 := by unfold duE; rw [if_neg (by omega), if_pos hy]
  have d1 : duN r y = st y + psN y r := if_pos d
  have d2 : duS r y = 86400 * (st y + psN y r) + r.T := if_pos d
  rw [d, d1] at HD
  rw [d, d2] at HT
  have HG : Hid (∀ w, Calls Tryd.prog 15 #[.agg #[.int .i64 r.K, .int .i64 r.M, .int .i64 r.W, .int .i64 r.D, .int .i64 r.T], .int .i64 y] w fun e w' => e = .returned (.int .i64 (st y + psN y r)) ∧ Below w.heap.size w w') := Lib.hid (fun w => rday16_any r y w ha hy)
  have pb := ps_bd (y := y) ha
  have tm := (ruE_zero ha).2.2
  unfold tmP at tm
  unfold yrP at hy
  have sb := st_bd (y := y) (by omega) (by omega)
  rw [ha] at HX HK
  have HN := Lib.hid (fun w => num_any 0 w (by decide) (by decide))
  have t1 := lt_no (a := y) (b := -10001) (by omega)
  have t2 := lt_no (a := 10001) (b := y) (by omega)
  obtain ⟨n, hn⟩ : ∃ n, n = st y + psN y r := ⟨_, rfl⟩
  have nb : -21000000 ≤ n ∧ n ≤ 21000000 := by omega
  rw [← hn] at HD HT HG
  obtain ⟨P, hP⟩ : ∃ P, P = n * 86400 := ⟨_, rfl⟩
  have r1 : IntKind.i64.wrap (n * 86400) = P := by rw [hP]; exact IntWalk.i64_in _ (by omega)
  have r2 : wrap64 (n * 86400) = P := by rw [hP]; unfold wrap64; omega
  rw [show 86400 * n + r.T = P + r.T by omega] at HT
  have pb2 : -2000000000000 ≤ P ∧ P ≤ 2000000000000 := by omega
  have r4 : IntKind.i64.wrap (P + r.T) = P + r.T := IntWalk.i64_in _ (by omega)
  have r5 : wrap64 (P + r.T) = P + r.T := by unfold wrap64; omega
  have r6 : IntKind.i64.wrap r.T = r.T := IntWalk.i64_in _ (by omega)
  clear d d1 d2 ha eb he L0 hy pb sb hn hP nb tm pb2
  go_enter Tryd.func3, Tryd.ntmps3
  go_upto_region 1 with fail
  rw [← hW0]; clear hW0
  go_wp2_with (first
    | (go_at_call 8; refine (HA.out _ E.out).mono ?_; rintro x w1 ⟨rfl, hb⟩; have R := Lib.hid (R.out.keep hb); have E := Lib.hid (E.out.below hb); have B := Lib.hid (B.out.trans (hb.mono B.out.size)); clear hb; obtain ⟨c0, c1, c2, c3, c4⟩ := R.out.all)
    | (go_at_call 9; refine (HD.out _ E.out).mono ?_; rintro x w2 ⟨rfl, hb⟩; have R := Lib.hid (R.out.keep hb); have E := Lib.hid (E.out.below hb); have B := Lib.hid (B.out.trans (hb.mono B.out.size)); clear hb; obtain ⟨c0, c1, c2, c3, c4⟩ := R.out.all)
    | (go_at_call 10; refine (HT.out _ E.out).mono ?_; rintro x w3 ⟨rfl, hb⟩; have R := Lib.hid (R.out.keep hb); have E := Lib.hid (E.out.below hb); have B := Lib.hid (B.out.trans (hb.mono B.out.size)); clear hb; obtain ⟨c0, c1, c2, c3, c4⟩ := R.out.all)
    | (go_at_call 12; refine (HC.out _).mono ?_; rintro x w4 ⟨rfl, hb⟩; have R := Lib.hid (R.out.keep hb); have E := Lib.hid (E.out.below hb); have B := Lib.hid (B.out.trans (hb.mono B.out.size)); clear hb; obtain ⟨c0, c1, c2, c3, c4⟩ := R.out.all)
    | (go_at_call 11; refine (HK.out _).mono ?_; rintro x w5 ⟨rfl, hb⟩; have R := Lib.hid (R.out.keep hb); have E := Lib.hid (E.out.below hb); have B := Lib.hid (B.out.trans (hb.mono B.out.size)); clear hb; obtain ⟨c0, c1, c2, c3, c4⟩ := R.out.all)
    | (go_at_call 14; refine (HX.out _).mono ?_; rintro x w6 ⟨rfl, hb⟩; have R := Lib.hid (R.out.keep hb); have E := Lib.hid (E.out.below hb); have B := Lib.hid (B.out.trans (hb.mono B.out.size)); clear hb; obtain ⟨c0, c1, c2, c3, c4⟩ := R.out.all)
    | (go_at_call 13; with_reducible refine (HN.out _).mono ?_; rintro x w7 ⟨rfl, rfl⟩)
    | (go_at_call 15; refine (HG.out _).mono ?_; rintro x w8 ⟨rfl, hb⟩; have R := Lib.hid (R.out.keep hb); have E := Lib.hid (E.out.below hb); have B := Lib.hid (B.out.trans (hb.mono B.out.size)); clear hb; obtain ⟨c0, c1, c2, c3, c4⟩ := R.out.all))
  go_ret
  exact ⟨rfl, B.out⟩

theorem days16_walk (r : Ru) (y : Int) (w : World) (he : Ends w) :
    Calls Tryd.prog 3 #[.agg r.cells, .int .i64 y] w fun x w' => x = .returned (.bool true) ∧ Below w.heap.size w w' := by
  by_cases ha : ruE r = 0
  · by_cases hy : y < -10001
    · exact days16_low r y w he ha hy
    · by_cases hy2 : 10001 < y
      · exact days16_high r y w he ha hy hy2
      · exact days16_good r y w he ha ⟨by omega, by omega⟩
  · exact days16_kind r y w he ha
end Go.Proofs.YtlngnllcjfbicaaDoor
