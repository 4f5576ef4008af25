/- The law RuleBack, walked. (Written by gen_ruls.py.) -/
import Derived.Test.YtlngnllcjfbicaaDoorRulL
import Derived.Test.YtlngnllcjfbicaaDoorRulR
namespace Go.Proofs.YtlngnllcjfbicaaDoor
open Go.RowKit
set_option linter.unusedVariables false
set_option linter.unusedSimpArgs false

theorem ruL_len {r : Ru} (h : ruE r = 0) : (ruL r).length ≤ 50 := by
  have a := dyL_len h
  have tm := (ruE_zero h).2.2
  unfold tmP at tm
  have b := ckL_len (t := r.T) (by omega)
  unfold ruL; split
  · omega
  · simp only [List.length_append, List.length_singleton]; omega
set_option maxHeartbeats 4000000 in
theorem back16_yy (r : Ru) (t : Int) (w : World) (he : Ends w) (hT : Tab w) (ht : fits t) (ha : pkP t 167) (hb : ruE r = 0) :
    Calls Tryd.prog 6 #[.agg r.cells, .int .i64 t] w fun x w' => x = .returned (.bool true) ∧ Below w.heap.size w w' := by
  have q0 := fun op t W x k => guard_ev op t W x k
  have q1 := fun W k => eql_ev W k
  have q2 := fun W k => neq_ev W k
  obtain ⟨W0, hW0⟩ : ∃ W0, W0 = w.alloc (.cells r.cells 23) := ⟨_, rfl⟩
  have B : Hid (Below w.heap.size w W0) := Lib.hid (by rw [hW0]; exact bel16 w _)
  have L0 : Rk W0 w.heap.size r := by rw [hW0]; exact rk_new _ _
  have R := Lib.hid L0
  have E := Lib.hid (he.below B.out)
  have T := Lib.hid (hT.below B.out)
  have HA := Lib.hid (fun w he => alive16_any w he)
  have HP := Lib.hid (fun w hT => putclock_any t 167 w hT ht)
  have HX : Hid (∀ w, Calls Tryd.prog 14 #[.agg #[.int .i64 r.K, .int .i64 r.M, .int .i64 r.W, .int .i64 r.D, .int .i64 r.T]] w fun e w' => e = .returned (ev (ruE r)) ∧ Below w.heap.size w w') := Lib.hid (fun w => check_any r w)
  have HU : Hid (∀ w, Tab w → Calls Tryd.prog 16 #[.agg #[.int .i64 r.K, .int .i64 r.M, .int .i64 r.W, .int .i64 r.D, .int .i64 r.T]] w fun e w' => e = .returned (.tuple #[.string ⟨(rtL r).toArray⟩, ev (ruE r)]) ∧ Below w.heap.size w w') := Lib.hid (fun w hT => rput16_any r w hT)
  have er := fun w => eq_rule r.K r.M r.W r.D r.T w
  clear L0 he hT
  have e1 : pkL t 167 = ckL t := if_pos ha
  have e2 : pkE t 167 = 0 := if_pos ha
  have hn : t.natAbs < 3600000 := by obtain ⟨-, h1, h2⟩ := ha; omega
  have cl := ckL_len hn
  obtain ⟨c1, c2⟩ := ck_back ha
  have HC := fun w => parseclock_any ⟨(ckL t).toArray⟩ 167 w (by rw [Lib.size_mk]; omega)
  rw [show (⟨(ckL t).toArray⟩ : ByteArray).data.toList = ckL t by simp, c1, c2] at HC
  rw [e1, e2] at HP
  have HC := Lib.hid HC
  generalize (⟨(ckL t).toArray⟩ : ByteArray) = S1 at *
  clear e1 e2 hn cl c1 c2 ha ht
  have e3 : rtL r = ruL r := if_pos hb
  have rl := ruL_len hb
  obtain ⟨d1, d2⟩ := rp_put hb
  have HR := fun w => parse16_any ⟨(ruL r).toArray⟩ w (by rw [Lib.size_mk]; omega)
  rw [show (⟨(ruL r).toArray⟩ : ByteArray).data.toList = ruL r by simp, d1, d2] at HR
  rw [e3, hb] at HU
  have HR : Hid (∀ w, Calls Tryd.prog 18 #[.string ⟨(ruL r).toArray⟩] w fun x w' => x = .returned (.tuple #[.agg #[.int .i64 r.K, .int .i64 r.M, .int .i64 r.W, .int .i64 r.D, .int .i64 r.T], ev 0]) ∧ Below w.heap.size w w') := Lib.hid HR
  generalize (⟨(ruL r).toArray⟩ : ByteArray) = S2 at *
  clear e3 rl d1 d2 hb HX
  go_enter Tryd.func6, Tryd.ntmps6
  go_upto_region 1 with fail
  rw [← hW0]; clear hW0
  go_upto_region 12 with (first
    | (go_at_call 8; refine (HA.out _ E.out).mono ?_; rintro x w1 ⟨rfl, hb⟩; have R := Lib.hid (R.out.keep hb); have T := Lib.hid (T.out.below hb); have E := Lib.hid (E.out.below hb); have B := Lib.hid (B.out.trans (hb.mono B.out.size)); clear hb)
    | (go_at_call 22; refine (HP.out _ T.out).mono ?_; rintro x w2 ⟨rfl, hb⟩; have R := Lib.hid (R.out.keep hb); have T := Lib.hid (T.out.below hb); have E := Lib.hid (E.out.below hb); have B := Lib.hid (B.out.trans (hb.mono B.out.size)); clear hb)
    | (go_at_call 20; refine (HC.out _).mono ?_; rintro x w3 ⟨rfl, hb⟩; have R := Lib.hid (R.out.keep hb); have T := Lib.hid (T.out.below hb); have E := Lib.hid (E.out.below hb); have B := Lib.hid (B.out.trans (hb.mono B.out.size)); clear hb; obtain ⟨c0, c1, c2, c3, c4⟩ := R.out.all)
    | (go_at_call 16; refine (HU.out _ T.out).mono ?_; rintro x w4 ⟨rfl, hb⟩; have R := Lib.hid (R.out.keep hb); have T := Lib.hid (T.out.below hb); have E := Lib.hid (E.out.below hb); have B := Lib.hid (B.out.trans (hb.mono B.out.size)); clear hb; obtain ⟨c0, c1, c2, c3, c4⟩ := R.out.all)
    | (go_at_call 18; refine (HR.out _).mono ?_; rintro x w5 ⟨rfl, hb⟩; have R := Lib.hid (R.out.keep hb); have B := Lib.hid (B.out.trans (hb.mono B.out.size)); clear hb; obtain ⟨c0, c1, c2, c3, c4⟩ := R.out.all))
  have R9 := R.out.keep (bel16 w5 (.cells #[.int .i64 r.K, .int .i64 r.M, .int .i64 r.W, .int .i64 r.D, .int .i64 r.T] 23))
  have N9 : Rk (w5.alloc (.cells #[.int .i64 r.K, .int .i64 r.M, .int .i64 r.W, .int .i64 r.D, .int .i64 r.T] 23)) w5.heap.size r := rk_new w5 r
  have B9 := B.out.alloc B.out.size (.cells #[.int .i64 r.K, .int .i64 r.M, .int .i64 r.W, .int .i64 r.D, .int .i64 r.T] 23)
  obtain ⟨q, hq⟩ : ∃ q, q = w5.heap.size := ⟨_, rfl⟩
  obtain ⟨W9, hW9⟩ : ∃ W9, W9 = w5.alloc (.cells #[.int .i64 r.K, .int .i64 r.M, .int .i64 r.W, .int .i64 r.D, .int .i64 r.T] 23) := ⟨_, rfl⟩
  rw [← hW9] at R9 N9 B9
  rw [← hq] at N9
  rw [← hW9, ← hq]
  have BB := Lib.hid B9
  clear hW9 hq c0 c1 c2 c3 c4 B9
  obtain ⟨c0, c1, c2, c3, c4⟩ := R9.all
  obtain ⟨n0, n1, n2, n3, n4⟩ := N9.all
  clear R9 N9
  go_wp2_with fail
  go_ret
  exact ⟨rfl, BB.out⟩
set_option maxHeartbeats 4000000 in
theorem back16_yn (r : Ru) (t : Int) (w : World) (he : Ends w) (hT : Tab w) (ht : fits t) (ha : pkP t 167) (hb : ruE r ≠ 0) :
    Calls Tryd.prog 6 #[.agg r.cells, .int .i64 t] w fun x w' => x = .returned (.bool true) ∧ Below w.heap.size w w' := by
  have q0 := fun op t W x k => guard_ev op t W x k
  have q1 := fun W k => eql_ev W k
  have q2 := fun W k => neq_ev W k
  obtain ⟨W0, hW0⟩ : ∃ W0, W0 = w.alloc (.cells r.cells 23) := ⟨_, rfl⟩
  have B : Hid (Below w.heap.size w W0) := Lib.hid (by rw [hW0]; exact bel16 w _)
  have L0 : Rk W0 w.heap.size r := by rw [hW0]; exact rk_new _ _
  have R := Lib.hid L0
  have E := Lib.hid (he.below B.out)
  have T := Lib.hid (hT.below B.out)
  have HA := Lib.hid (fun w he => alive16_any w he)
  have HP := Lib.hid (fun w hT => putclock_any t 167 w hT ht)
  have HX : Hid (∀ w, Calls Tryd.prog 14 #[.agg #[.int .i64 r.K, .int .i64 r.M, .int .i64 r.W, .int .i64 r.D, .int .i64 r.T]] w fun e w' => e = .returned (ev (ruE r)) ∧ Below w.heap.size w w') := Lib.hid (fun w => check_any r w)
  have HU : Hid (∀ w, Tab w → Calls Tryd.prog 16 #[.agg #[.int .i64 r.K, .int .i64 r.M, .int .i64 r.W, .int .i64 r.D, .int .i64 r.T]] w fun e w' => e = .returned (.tuple #[.string ⟨(rtL r).toArray⟩, ev (ruE r)]) ∧ Below w.heap.size w w') := Lib.hid (fun w hT => rput16_any r w hT)
  have er := fun w => eq_rule r.K r.M r.W r.D r.T w
  clear L0 he hT
  have e1 : pkL t 167 = ckL t := if_pos ha
  have e2 : pkE t 167 = 0 := if_pos ha
  have hn : t.natAbs < 3600000 := by obtain ⟨-, h1, h2⟩ := ha; omega
  have cl := ckL_len hn
  obtain ⟨c1, c2⟩ := ck_back ha
  have HC := fun w => parseclock_any ⟨(ckL t).toArray⟩ 167 w (by rw [Lib.size_mk]; omega)
  rw [show (⟨(ckL t).toArray⟩ : ByteArray).data.toList = ckL t by simp, c1, c2] at HC
  rw [e1, e2] at HP
  have HC := Lib.hid HC
  generalize (⟨(ckL t).toArray⟩ : ByteArray) = S1 at *
  clear e1 e2 hn cl c1 c2 ha ht
  generalize (⟨(rtL r).toArray⟩ : ByteArray) = S2 at *
  have t1 : (ruE r == 0) = false := eq_no hb
  have t2 := ne_yes hb
  generalize ruE r = F at *
  clear hb
  go_enter Tryd.func6, Tryd.ntmps6
  go_upto_region 1 with fail
  rw [← hW0]; clear hW0
  go_wp2_with (first
    | (go_at_call 8; refine (HA.out _ E.out).mono ?_; rintro x w1 ⟨rfl, hb⟩; have R := Lib.hid (R.out.keep hb); have T := Lib.hid (T.out.below hb); have E := Lib.hid (E.out.below hb); have B := Lib.hid (B.out.trans (hb.mono B.out.size)); clear hb)
    | (go_at_call 22; refine (HP.out _ T.out).mono ?_; rintro x w2 ⟨rfl, hb⟩; have R := Lib.hid (R.out.keep hb); have T := Lib.hid (T.out.below hb); have E := Lib.hid (E.out.below hb); have B := Lib.hid (B.out.trans (hb.mono B.out.size)); clear hb)
    | (go_at_call 20; refine (HC.out _).mono ?_; rintro x w3 ⟨rfl, hb⟩; have R := Lib.hid (R.out.keep hb); have T := Lib.hid (T.out.below hb); have E := Lib.hid (E.out.below hb); have B := Lib.hid (B.out.trans (hb.mono B.out.size)); clear hb; obtain ⟨c0, c1, c2, c3, c4⟩ := R.out.all)
    | (go_at_call 16; refine (HU.out _ T.out).mono ?_; rintro x w4 ⟨rfl, hb⟩; have R := Lib.hid (R.out.keep hb); have T := Lib.hid (T.out.below hb); have E := Lib.hid (E.out.below hb); have B := Lib.hid (B.out.trans (hb.mono B.out.size)); clear hb; obtain ⟨c0, c1, c2, c3, c4⟩ := R.out.all)
    | (go_at_call 14; refine (HX.out _).mono ?_; rintro x w5 ⟨rfl, hb⟩; have B := Lib.hid (B.out.trans (hb.mono B.out.size)); clear hb))
  go_ret
  exact ⟨rfl, B.out⟩
set_option maxHeartbeats 4000000 in
theorem back16_ny (r : Ru) (t : Int) (w : World) (he : Ends w) (hT : Tab w) (ht : fits t) (ha : ¬ pkP t 167) (hb : ruE r = 0) :
    Calls Tryd.prog 6 #[.agg r.cells, .int .i64 t] w fun x w' => x = .returned (.bool true) ∧ Below w.heap.size w w' := by
  have q0 := fun op t W x k => guard_ev op t W x k
  have q1 := fun W k => eql_ev W k
  have q2 := fun W k => neq_ev W k
  obtain ⟨W0, hW0⟩ : ∃ W0, W0 = w.alloc (.cells r.cells 23) := ⟨_, rfl⟩
  have B : Hid (Below w.heap.size w W0) := Lib.hid (by rw [hW0]; exact bel16 w _)
  have L0 : Rk W0 w.heap.size r := by rw [hW0]; exact rk_new _ _
  have R := Lib.hid L0
  have E := Lib.hid (he.below B.out)
  have T := Lib.hid (hT.below B.out)
  have HA := Lib.hid (fun w he => alive16_any w he)
  have HP := Lib.hid (fun w hT => putclock_any t 167 w hT ht)
  have HX : Hid (∀ w, Calls Tryd.prog 14 #[.agg #[.int .i64 r.K, .int .i64 r.M, .int .i64 r.W, .int .i64 r.D, .int .i64 r.T]] w fun e w' => e = .returned (ev (ruE r)) ∧ Below w.heap.size w w') := Lib.hid (fun w => check_any r w)
  have HU : Hid (∀ w, Tab w → Calls Tryd.prog 16 #[.agg #[.int .i64 r.K, .int .i64 r.M, .int .i64 r.W, .int .i64 r.D, .int .i64 r.T]] w fun e w' => e = .returned (.tuple #[.string ⟨(rtL r).toArray⟩, ev (ruE r)]) ∧ Below w.heap.size w w') := Lib.hid (fun w hT => rput16_any r w hT)
  have er := fun w => eq_rule r.K r.M r.W r.D r.T w
  clear L0 he hT
  have e2 : pkE t 167 = 1 := if_neg ha
  rw [e2] at HP
  generalize (⟨(pkL t 167).toArray⟩ : ByteArray) = S1 at *
  clear e2 ha ht
  have e3 : rtL r = ruL r := if_pos hb
  have rl := ruL_len hb
  obtain ⟨d1, d2⟩ := rp_put hb
  have HR := fun w => parse16_any ⟨(ruL r).toArray⟩ w (by rw [Lib.size_mk]; omega)
  rw [show (⟨(ruL r).toArray⟩ : ByteArray).data.toList = ruL r by simp, d1, d2] at HR
  rw [e3, hb] at HU
  have HR : Hid (∀ w, Calls Tryd.prog 18 #[.string ⟨(ruL r).toArray⟩] w fun x w' => x = .returned (.tuple #[.agg #[.int .i64 r.K, .int .i64 r.M, .int .i64 r.W, .int .i64 r.D, .int .i64 r.T], ev 0]) ∧ Below w.heap.size w w') := Lib.hid HR
  generalize (⟨(ruL r).toArray⟩ : ByteArray) = S2 at *
  clear e3 rl d1 d2 hb HX
  go_enter Tryd.func6, Tryd.ntmps6
  go_upto_region 1 with fail
  rw [← hW0]; clear hW0
  go_upto_region 12 with (first
    | (go_at_call 8; refine (HA.out _ E.out).mono ?_; rintro x w1 ⟨rfl, hb⟩; have R := Lib.hid (R.out.keep hb); have T := Lib.hid (T.out.below hb); have E := Lib.hid (E.out.below hb); have B := Lib.hid (B.out.trans (hb.mono B.out.size)); clear hb)
    | (go_at_call 22; refine (HP.out _ T.out).mono ?_; rintro x w2 ⟨rfl, hb⟩; have R := Lib.hid (R.out.keep hb); have T := Lib.hid (T.out.below hb); have E := Lib.hid (E.out.below hb); have B := Lib.hid (B.out.trans (hb.mono B.out.size)); clear hb; obtain ⟨c0, c1, c2, c3, c4⟩ := R.out.all)
    | (go_at_call 16; refine (HU.out _ T.out).mono ?_; rintro x w4 ⟨rfl, hb⟩; have R := Lib.hid (R.out.keep hb); have T := Lib.hid (T.out.below hb); have E := Lib.hid (E.out.below hb); have B := Lib.hid (B.out.trans (hb.mono B.out.size)); clear hb; obtain ⟨c0, c1, c2, c3, c4⟩ := R.out.all)
    | (go_at_call 18; refine (HR.out _).mono ?_; rintro x w5 ⟨rfl, hb⟩; have R := Lib.hid (R.out.keep hb); have B := Lib.hid (B.out.trans (hb.mono B.out.size)); clear hb; obtain ⟨c0, c1, c2, c3, c4⟩ := R.out.all))
  have R9 := R.out.keep (bel16 w5 (.cells #[.int .i64 r.K, .int .i64 r.M, .int .i64 r.W, .int .i64 r.D, .int .i64 r.T] 23))
  have N9 : Rk (w5.alloc (.cells #[.int .i64 r.K, .int .i64 r.M, .int .i64 r.W, .int .i64 r.D, .int .i64 r.T] 23)) w5.heap.size r := rk_new w5 r
  have B9 := B.out.alloc B.out.size (.cells #[.int .i64 r.K, .int .i64 r.M, .int .i64 r.W, .int .i64 r.D, .int .i64 r.T] 23)
  obtain ⟨q, hq⟩ : ∃ q, q = w5.heap.size := ⟨_, rfl⟩
  obtain ⟨W9, hW9⟩ : ∃ W9, W9 = w5.alloc (.cells #[.int .i64 r.K, .int .i64 r.M, .int .i64 r.W, .int .i64 r.D, .int .i64 r.T] 23) := ⟨_, rfl⟩
  rw [← hW9] at R9 N9 B9
  rw [← hq] at N9
  rw [← hW9, ← hq]
  have BB := Lib.hid B9
  clear hW9 hq c0 c1 c2 c3 c4 B9
  obtain ⟨c0, c1, c2, c3, c4⟩ := R9.all
  obtain ⟨n0, n1, n2, n3, n4⟩ := N9.all
  clear R9 N9
  go_wp2_with fail
  go_ret
  exact ⟨rfl, BB.out⟩
set_option maxHeartbeats 4000000 in
theorem back16_nn (r : Ru) (t : Int) (w : World) (he : Ends w) (hT : Tab w) (ht : fits t) (ha : ¬ pkP t 167) (hb : ruE r ≠ 0) :
    Calls Tryd.prog 6 #[.agg r.cells, .int .i64 t] w fun x w' => x = .returned (.bool true) ∧ Below w.heap.size w w' := by
  have q0 := fun op t W x k => guard_ev op t W x k
  have q1 := fun W k => eql_ev W k
  have q2 := fun W k => neq_ev W k
  obtain ⟨W0, hW0⟩ : ∃ W0, W0 = w.alloc (.cells r.cells 23) := ⟨_, rfl⟩
  have B : Hid (Below w.heap.size w W0) := Lib.hid (by rw [hW0]; exact bel16 w _)
  have L0 : Rk W0 w.heap.size r := by rw [hW0]; exact rk_new _ _
  have R := Lib.hid L0
  have E := Lib.hid (he.below B.out)
  have T := Lib.hid (hT.below B.out)
  have HA := Lib.hid (fun w he => alive16_any w he)
  have HP := Lib.hid (fun w hT => putclock_any t 167 w hT ht)
  have HX : Hid (∀ w, Calls Tryd.prog 14 #[.agg #[.int .i64 r.K, .int .i64 r.M, .int .i64 r.W, .int .i64 r.D, .int .i64 r.T]] w fun e w' => e = .returned (ev (ruE r)) ∧ Below w.heap.size w w') := Lib.hid (fun w => check_any r w)
  have HU : Hid (∀ w, Tab w → Calls Tryd.prog 16 #[.agg #[.int .i64 r.K, .int .i64 r.M, .int .i64 r.W, .int .i64 r.D, .int .i64 r.T]] w fun e w' => e = .returned (.tuple #[.string ⟨(rtL r).toArray⟩, ev (ruE r)]) ∧ Below w.heap.size w w') := Lib.hid (fun w hT => rput16_any r w hT)
  have er := fun w => eq_rule r.K r.M r.W r.D r.T w
  clear L0 he hT
  have e2 : pkE t 167 = 1 := if_neg ha
  rw [e2] at HP
  generalize (⟨(pkL t 167).toArray⟩ : ByteArray) = S1 at *
  clear e2 ha ht
  generalize (⟨(rtL r).toArray⟩ : ByteArray) = S2 at *
  have t1 : (ruE r == 0) = false := eq_no hb
  have t2 := ne_yes hb
  generalize ruE r = F at *
  clear hb
  go_enter Tryd.func6, Tryd.ntmps6
  go_upto_region 1 with fail
  rw [← hW0]; clear hW0
  go_wp2_with (first
    | (go_at_call 8; refine (HA.out _ E.out).mono ?_; rintro x w1 ⟨rfl, hb⟩; have R := Lib.hid (R.out.keep hb); have T := Lib.hid (T.out.below hb); have E := Lib.hid (E.out.below hb); have B := Lib.hid (B.out.trans (hb.mono B.out.size)); clear hb)
    | (go_at_call 22; refine (HP.out _ T.out).mono ?_; rintro x w2 ⟨rfl, hb⟩; have R := Lib.hid (R.out.keep hb); have T := Lib.hid (T.out.below hb); have E := Lib.hid (E.out.below hb); have B := Lib.hid (B.out.trans (hb.mono B.out.size)); clear hb; obtain ⟨c0, c1, c2, c3, c4⟩ := R.out.all)
    | (go_at_call 16; refine (HU.out _ T.out).mono ?_; rintro x w4 ⟨rfl, hb⟩; have R := Lib.hid (R.out.keep hb); have T := Lib.hid (T.out.below hb); have E := Lib.hid (E.out.below hb); have B := Lib.hid (B.out.trans (hb.mono B.out.size)); clear hb; obtain ⟨c0, c1, c2, c3, c4⟩ := R.out.all)
    | (go_at_call 14; refine (HX.out _).mono ?_; rintro x w5 ⟨rfl, hb⟩; have B := Lib.hid (B.out.trans (hb.mono B.out.size)); clear hb))
  go_ret
  exact ⟨rfl, B.out⟩

theorem back16_walk (r : Ru) (t : Int) (w : World) (he : Ends w) (hT : Tab w) (ht : fits t) :
    Calls Tryd.prog 6 #[.agg r.cells, .int .i64 t] w fun x w' => x = .returned (.bool true) ∧ Below w.heap.size w w' := by
  by_cases ha : pkP t 167 <;> by_cases hb : ruE r = 0
  · exact back16_yy r t w he hT ht ha hb
  · exact back16_yn r t w he hT ht ha hb
  · exact back16_ny r t w he hT ht ha hb
  · exact back16_nn r t w he hT ht ha hb
end Go.Proofs.YtlngnllcjfbicaaDoor
