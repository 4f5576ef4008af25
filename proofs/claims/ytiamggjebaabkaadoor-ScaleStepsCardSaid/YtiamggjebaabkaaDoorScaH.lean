/- ScaleSteps. Written by gen_scl.py. -/
import Derived.Test.YtiamggjebaabkaaDoorScaF
import Derived.Test.YtiamggjebaabkaaDoorLabE
namespace Go.Proofs.YtiamggjebaabkaaDoor
open Go.RowKit
set_option linter.unusedVariables false
set_option linter.unusedSimpArgs false

theorem ml_zero {L : List Rw} {t nn o : Int} {K : Lb} (h : mlE L t nn o = 0) (hK : Ml L t nn o K) : tpE L t = 0 ∧ mkE (tpN L t) (tpS L t) nn o = 0 ∧ Mk (tpN L t) (tpS L t) nn o K := by
  rcases hK with ⟨h0, hK⟩ | ⟨h0, rfl⟩
  · unfold mlE at h
    rw [if_pos h0] at h
    exact ⟨h0, h, hK⟩
  · unfold mlE at h
    rw [if_neg h0] at h
    exact absurd h h0
theorem crs_leap {t : Int} (h0 : 0 ≤ t) (h1 : t ≤ 86400) : crs t = 60 ↔ t = 86400 := by
  unfold crs cmn
  split <;> omega
theorem mk_s {n t nn o : Int} {K : Lb} (h : mkE n t nn o = 0) (hK : Mk n t nn o K) : K.s = crs t := by
  rcases hK with ⟨_, y, m, d, _, rfl⟩ | ⟨h0, _⟩
  · rfl
  · exact absurd h h0
theorem steps_facts {L : List Rw} (V : Vr L) {t : Int} {K J : Lb} (h : mlE L t 0 0 = 0) (h' : mlE L (t + 1) 0 0 = 0) (hK : Ml L t 0 0 K) (hJ : Ml L (t + 1) 0 0 J) :
    cmE K J = 0 ∧ cmV K J = -1 ∧ taE L J = 0 ∧ taV L J = t + 1 ∧ tpE L t = 0 ∧ pfV L t = t - ahV L t ∧ decide (lbE K = 0 ∧ K.s = 60) = pfB L t := by
  obtain ⟨z1, m1, k1⟩ := ml_zero h hK
  obtain ⟨z2, m2, k2⟩ := ml_zero h' hJ
  obtain ⟨e1, n1, t1, -, -⟩ := mk_moment m1 k1
  obtain ⟨e2, n2, t2, -, -⟩ := mk_moment m2 k2
  have p1 := pl_tp V (tpE_zero z1).1
  have p2 := pl_tp V (tpE_zero z2).1
  have b1 := tp_bd V (tpE_zero z1).1
  have lt := fun q => pl_lt V p2 p1 q
  have ce : cmE K J = 0 := by unfold cmE; rw [if_pos e1]; exact e2
  have p2' := p2
  rw [← n2, ← t2] at p2'
  obtain ⟨a1, a2⟩ := pl_ta e2 p2'
  refine ⟨ce, ?_, a1, a2, z1, ?_, ?_⟩
  · unfold cmV
    rw [if_pos ce]
    unfold cm3
    rw [n1, n2, t1, t2]
    rcases cp_bd (tpN L t) (tpN L (t + 1)) with ⟨q, e⟩ | ⟨q, e⟩ | ⟨q, e⟩
    · rw [e, if_neg (by decide)]
    · have := lt q; omega
    · have q3 : tpS L (t + 1) - tpS L t = 1 := by
        rw [← q] at p2
        have := pl_same p1 p2
        omega
      have e2 : cp (tpS L t) (tpS L (t + 1)) = -1 := by
        rcases cp_bd (tpS L t) (tpS L (t + 1)) with ⟨_, h⟩ | ⟨_, _⟩ | ⟨_, _⟩
        · exact h
        · omega
        · omega
      rw [e, if_pos rfl, e2, if_neg (by decide)]
  · unfold pfV ahV
    rw [if_pos z1, if_pos z1]; omega
  · unfold pfB
    rw [if_pos z1]
    have s1 := mk_s m1 k1
    have cl := crs_leap b1.2.1.1 b1.2.1.2
    by_cases q : tpS L t = 86400
    · rw [decide_eq_true ⟨e1, by rw [s1]; exact cl.2 q⟩, q]; rfl
    · rw [decide_eq_false (fun r => q (cl.1 (by rw [← s1]; exact r.2))), beq_eq_false_iff_ne.2 q]

set_option maxRecDepth 100000 in
set_option maxHeartbeats 4000000 in
theorem steps12_long (A : Option Addr) (c : Nat) (L : List Rw) (u e : Int) (t : Int) (w : World) (he : Ends w) (hr : Rp w.heap.size w A L) (hA : A = none → c = 0 ∧ L = []) (hc : L.length ≤ c) (hm : c ≤ maxLen) (ht : fits t) (hlong : 296 < L.length) :
    Calls Tryd.prog 7 #[.agg #[.slice A L.length c, .int .i64 u, .int .i64 e], .int .i64 t] w fun x w' => x = .returned (.bool true) ∧ Below w.heap.size w w' := by
  obtain ⟨W0, hW0, b0, s0, g0⟩ := raw_new w A L.length c u e
  clear s0
  have B := Lib.hid b0
  have E := Lib.hid (he.below b0)
  have X := Lib.hid g0
  have R := Lib.hid (hr.keep b0).low
  have HAl := Lib.hid (fun W he => alive12_any W he)
  have HLo := Lib.hid (fun W => long10_any A L.length c u e W)
  have q0 := fun op t W x k => guard_ev op t W x k
  have q1 := fun W k => eql_ev W k
  have q2 := fun W k => neq_ev W k
  rw [decide_eq_true hlong] at HLo
  clear hlong
  clear b0 g0  he hr hA hc hm
  generalize L.length = N at *
  go_enter Tryd.func7, Tryd.ntmps7
  go_upto_region 1 with fail
  rw [← hW0]; clear hW0
  go_wp2_with fail
  refine (HAl.out _ E.out).mono ?_
  rintro e1 w1 ⟨rfl, hb⟩
  have B := Lib.hid (B.out.trans (hb.mono B.out.size))
  have E := Lib.hid (E.out.below hb)
  have X := Lib.hid ((hb.block _ (bk_lt X.out)).trans X.out)
  have R := Lib.hid ((R.out.keep hb).low)
  clear hb
  have cX0 := bk_cell X.out 0
  have cX1 := bk_cell X.out 1
  have cX2 := bk_cell X.out 2
  go_wp2_with fail
  refine (HLo.out _).mono ?_
  rintro e2 w2 ⟨rfl, hb⟩
  clear cX0 cX1 cX2
  have B := Lib.hid (B.out.trans (hb.mono B.out.size))
  have E := Lib.hid (E.out.below hb)
  have X := Lib.hid ((hb.block _ (bk_lt X.out)).trans X.out)
  have R := Lib.hid ((R.out.keep hb).low)
  clear hb
  have cX0 := bk_cell X.out 0
  have cX1 := bk_cell X.out 1
  have cX2 := bk_cell X.out 2
  go_wp2_with fail
  go_ret
  exact ⟨rfl, B.out⟩

set_option maxRecDepth 100000 in
set_option maxHeartbeats 4000000 in
theorem steps12_hi (A : Option Addr) (c : Nat) (L : List Rw) (u e : Int) (t : Int) (w : World) (he : Ends w) (hr : Rp w.heap.size w A L) (hA : A = none → c = 0 ∧ L = []) (hc : L.length ≤ c) (hm : c ≤ maxLen) (hshort : ¬ 296 < L.length) (hf : 1125899906842624 < t) :
    Calls Tryd.prog 7 #[.agg #[.slice A L.length c, .int .i64 u, .int .i64 e], .int .i64 t] w fun x w' => x = .returned (.bool true) ∧ Below w.heap.size w w' := by
  obtain ⟨W0, hW0, b0, s0, g0⟩ := raw_new w A L.length c u e
  clear s0
  have B := Lib.hid b0
  have E := Lib.hid (he.below b0)
  have X := Lib.hid g0
  have R := Lib.hid (hr.keep b0).low
  have HAl := Lib.hid (fun W he => alive12_any W he)
  have HLo := Lib.hid (fun W => long10_any A L.length c u e W)
  have q0 := fun op t W x k => guard_ev op t W x k
  have q1 := fun W k => eql_ev W k
  have q2 := fun W k => neq_ev W k
  rw [decide_eq_false hshort] at HLo
  clear hshort
  clear b0 g0  he hr hA hc hm
  generalize L.length = N at *
  go_enter Tryd.func7, Tryd.ntmps7
  go_upto_region 1 with fail
  rw [← hW0]; clear hW0
  go_wp2_with fail
  refine (HAl.out _ E.out).mono ?_
  rintro e1 w1 ⟨rfl, hb⟩
  have B := Lib.hid (B.out.trans (hb.mono B.out.size))
  have E := Lib.hid (E.out.below hb)
  have X := Lib.hid ((hb.block _ (bk_lt X.out)).trans X.out)
  have R := Lib.hid ((R.out.keep hb).low)
  clear hb
  have cX0 := bk_cell X.out 0
  have cX1 := bk_cell X.out 1
  have cX2 := bk_cell X.out 2
  go_wp2_with fail
  refine (HLo.out _).mono ?_
  rintro e2 w2 ⟨rfl, hb⟩
  clear cX0 cX1 cX2
  have B := Lib.hid (B.out.trans (hb.mono B.out.size))
  have E := Lib.hid (E.out.below hb)
  have X := Lib.hid ((hb.block _ (bk_lt X.out)).trans X.out)
  have R := Lib.hid ((R.out.keep hb).low)
  clear hb
  have cX0 := bk_cell X.out 0
  have cX1 := bk_cell X.out 1
  have cX2 := bk_cell X.out 2
  go_wp2_with fail
  go_ret
  exact ⟨rfl, B.out⟩

set_option maxRecDepth 100000 in
set_option maxHeartbeats 4000000 in
theorem steps12_lo (A : Option Addr) (c : Nat) (L : List Rw) (u e : Int) (t : Int) (w : World) (he : Ends w) (hr : Rp w.heap.size w A L) (hA : A = none → c = 0 ∧ L = []) (hc : L.length ≤ c) (hm : c ≤ maxLen) (hshort : ¬ 296 < L.length) (hg : ¬ 1125899906842624 < t) (hf : t < -1125899906842624) :
    Calls Tryd.prog 7 #[.agg #[.slice A L.length c, .int .i64 u, .int .i64 e], .int .i64 t] w fun x w' => x = .returned (.bool true) ∧ Below w.heap.size w w' := by
  obtain ⟨W0, hW0, b0, s0, g0⟩ := raw_new w A L.length c u e
  clear s0
  have B := Lib.hid b0
  have E := Lib.hid (he.below b0)
  have X := Lib.hid g0
  have R := Lib.hid (hr.keep b0).low
  have HAl := Lib.hid (fun W he => alive12_any W he)
  have HLo := Lib.hid (fun W => long10_any A L.length c u e W)
  have q0 := fun op t W x k => guard_ev op t W x k
  have q1 := fun W k => eql_ev W k
  have q2 := fun W k => neq_ev W k
  rw [decide_eq_false hshort] at HLo
  clear hshort
  clear b0 g0  he hr hA hc hm
  generalize L.length = N at *
  go_enter Tryd.func7, Tryd.ntmps7
  go_upto_region 1 with fail
  rw [← hW0]; clear hW0
  go_wp2_with fail
  refine (HAl.out _ E.out).mono ?_
  rintro e1 w1 ⟨rfl, hb⟩
  have B := Lib.hid (B.out.trans (hb.mono B.out.size))
  have E := Lib.hid (E.out.below hb)
  have X := Lib.hid ((hb.block _ (bk_lt X.out)).trans X.out)
  have R := Lib.hid ((R.out.keep hb).low)
  clear hb
  have cX0 := bk_cell X.out 0
  have cX1 := bk_cell X.out 1
  have cX2 := bk_cell X.out 2
  go_wp2_with fail
  refine (HLo.out _).mono ?_
  rintro e2 w2 ⟨rfl, hb⟩
  clear cX0 cX1 cX2
  have B := Lib.hid (B.out.trans (hb.mono B.out.size))
  have E := Lib.hid (E.out.below hb)
  have X := Lib.hid ((hb.block _ (bk_lt X.out)).trans X.out)
  have R := Lib.hid ((R.out.keep hb).low)
  clear hb
  have cX0 := bk_cell X.out 0
  have cX1 := bk_cell X.out 1
  have cX2 := bk_cell X.out 2
  go_wp2_with fail
  go_ret
  exact ⟨rfl, B.out⟩

set_option maxRecDepth 100000 in
set_option maxHeartbeats 4000000 in
theorem steps12_new (A : Option Addr) (c : Nat) (L : List Rw) (u e : Int) (t : Int) (w : World) (he : Ends w) (hr : Rp w.heap.size w A L) (hA : A = none → c = 0 ∧ L = []) (hc : L.length ≤ c) (hm : c ≤ maxLen) (hshort : ¬ 296 < L.length) (hg : ¬ 1125899906842624 < t) (hf : ¬ t < -1125899906842624) (hk : lkE L u e ≠ 0) :
    Calls Tryd.prog 7 #[.agg #[.slice A L.length c, .int .i64 u, .int .i64 e], .int .i64 t] w fun x w' => x = .returned (.bool true) ∧ Below w.heap.size w w' := by
  obtain ⟨W0, hW0, b0, s0, g0⟩ := raw_new w A L.length c u e
  clear s0
  have B := Lib.hid b0
  have E := Lib.hid (he.below b0)
  have X := Lib.hid g0
  have R := Lib.hid (hr.keep b0).low
  have HAl := Lib.hid (fun W he => alive12_any W he)
  have HLo := Lib.hid (fun W => long10_any A L.length c u e W)
  have q0 := fun op t W x k => guard_ev op t W x k
  have q1 := fun W k => eql_ev W k
  have q2 := fun W k => neq_ev W k
  rw [decide_eq_false hshort] at HLo
  have HN := Lib.hid (fun W (he : Ends W) (hr : Rp W.heap.size W A L) => new_no A c L u e W he (by omega) hr hc hm hk)
  have hkb : (lkE L u e != 0) = true := bne_iff_ne.mpr hk
  generalize lkE L u e = k at *
  clear hshort hk
  clear b0 g0  he hr hA hc hm
  generalize L.length = N at *
  go_enter Tryd.func7, Tryd.ntmps7
  go_upto_region 1 with fail
  rw [← hW0]; clear hW0
  go_wp2_with fail
  refine (HAl.out _ E.out).mono ?_
  rintro e1 w1 ⟨rfl, hb⟩
  have B := Lib.hid (B.out.trans (hb.mono B.out.size))
  have E := Lib.hid (E.out.below hb)
  have X := Lib.hid ((hb.block _ (bk_lt X.out)).trans X.out)
  have R := Lib.hid ((R.out.keep hb).low)
  clear hb
  have cX0 := bk_cell X.out 0
  have cX1 := bk_cell X.out 1
  have cX2 := bk_cell X.out 2
  go_wp2_with fail
  refine (HLo.out _).mono ?_
  rintro e2 w2 ⟨rfl, hb⟩
  clear cX0 cX1 cX2
  have B := Lib.hid (B.out.trans (hb.mono B.out.size))
  have E := Lib.hid (E.out.below hb)
  have X := Lib.hid ((hb.block _ (bk_lt X.out)).trans X.out)
  have R := Lib.hid ((R.out.keep hb).low)
  clear hb
  have cX0 := bk_cell X.out 0
  have cX1 := bk_cell X.out 1
  have cX2 := bk_cell X.out 2
  go_wp2_with fail
  refine (HN.out _ E.out R.out).mono ?_
  rintro e3 w3 ⟨rfl, hb⟩
  clear cX0 cX1 cX2
  have B := Lib.hid (B.out.trans (hb.mono B.out.size))
  have E := Lib.hid (E.out.below hb)
  have X := Lib.hid ((hb.block _ (bk_lt X.out)).trans X.out)
  have R := Lib.hid ((R.out.keep hb).low)
  clear hb
  go_wp2_with fail
  go_ret
  exact ⟨rfl, B.out⟩

set_option maxRecDepth 100000 in
set_option maxHeartbeats 4000000 in
theorem steps12_a (A : Option Addr) (c : Nat) (L : List Rw) (u e : Int) (t : Int) (w : World) (he : Ends w) (hr : Rp w.heap.size w A L) (hA : A = none → c = 0 ∧ L = []) (hc : L.length ≤ c) (hm : c ≤ maxLen) (hshort : ¬ 296 < L.length) (hg : ¬ 1125899906842624 < t) (hf : ¬ t < -1125899906842624) (hk : lkE L u e = 0) (hm1 : mlE L t 0 0 ≠ 0) :
    Calls Tryd.prog 7 #[.agg #[.slice A L.length c, .int .i64 u, .int .i64 e], .int .i64 t] w fun x w' => x = .returned (.bool true) ∧ Below w.heap.size w w' := by
  obtain ⟨W0, hW0, b0, s0, g0⟩ := raw_new w A L.length c u e
  clear s0
  have B := Lib.hid b0
  have E := Lib.hid (he.below b0)
  have X := Lib.hid g0
  have R := Lib.hid (hr.keep b0).low
  have HAl := Lib.hid (fun W he => alive12_any W he)
  have HLo := Lib.hid (fun W => long10_any A L.length c u e W)
  have q0 := fun op t W x k => guard_ev op t W x k
  have q1 := fun W k => eql_ev W k
  have q2 := fun W k => neq_ev W k
  rw [decide_eq_false hshort] at HLo
  have V := (lkE_zero hk).1
  have HN := Lib.hid (fun W (he : Ends W) (hr : Rp W.heap.size W A L) => new_some A c L u e W he (by omega) hr hA hc hm hk)
  obtain ⟨K, hK⟩ := ml_ex L t 0 0
  obtain ⟨J, hJ⟩ := ml_ex L (t + 1) 0 0
  have HL1 := Lib.hid (fun (lo g : Nat) (W : World) (h1 : Ends W) (h2 : Tb lo W g L u e) => label12_any t 0 0 (by unfold fits; omega) h1 h2 V hK)
  have HL2 := Lib.hid (fun (lo g : Nat) (W : World) (h1 : Ends W) (h2 : Tb lo W g L u e) => label12_any (t + 1) 0 0 (by unfold fits; omega) h1 h2 V hJ)
  change Hid (∀ lo g W, Ends W → _ → Calls _ _ _ W fun e w' => e = .returned (.tuple #[.agg #[.int .i64 K.y, .int .i64 K.m, .int .i64 K.d, .int .i64 K.h, .int .i64 K.i, .int .i64 K.s, .int .i64 K.n, .int .i64 K.o], _]) ∧ _) at HL1
  change Hid (∀ lo g W, Ends W → _ → Calls _ _ _ W fun e w' => e = .returned (.tuple #[.agg #[.int .i64 J.y, .int .i64 J.m, .int .i64 J.d, .int .i64 J.h, .int .i64 J.i, .int .i64 J.s, .int .i64 J.n, .int .i64 J.o], _]) ∧ _) at HL2
  have wt : wrap64 (t + 1) = t + 1 := wrap64_fit (by unfold fits; omega)
  have hmb : (mlE L t 0 0 != 0) = true := bne_iff_ne.mpr hm1
  clear hshort hk hm1 V hK hJ
  clear b0 g0  he hr hA hc hm
  generalize mlE L t 0 0 = e1 at *
  generalize mlE L (t + 1) 0 0 = e2 at *
  generalize L.length = N at *
  go_enter Tryd.func7, Tryd.ntmps7
  go_upto_region 1 with fail
  rw [← hW0]; clear hW0
  go_wp2_with fail
  refine (HAl.out _ E.out).mono ?_
  rintro e1 w1 ⟨rfl, hb⟩
  have B := Lib.hid (B.out.trans (hb.mono B.out.size))
  have E := Lib.hid (E.out.below hb)
  have X := Lib.hid ((hb.block _ (bk_lt X.out)).trans X.out)
  have R := Lib.hid ((R.out.keep hb).low)
  clear hb
  have cX0 := bk_cell X.out 0
  have cX1 := bk_cell X.out 1
  have cX2 := bk_cell X.out 2
  go_wp2_with fail
  refine (HLo.out _).mono ?_
  rintro e2 w2 ⟨rfl, hb⟩
  clear cX0 cX1 cX2
  have B := Lib.hid (B.out.trans (hb.mono B.out.size))
  have E := Lib.hid (E.out.below hb)
  have X := Lib.hid ((hb.block _ (bk_lt X.out)).trans X.out)
  have R := Lib.hid ((R.out.keep hb).low)
  clear hb
  have cX0 := bk_cell X.out 0
  have cX1 := bk_cell X.out 1
  have cX2 := bk_cell X.out 2
  go_wp2_with fail
  refine (HN.out _ E.out R.out).mono ?_
  rintro e3 w3 ⟨g, rfl, hb, ht⟩
  clear cX0 cX1 cX2
  have T := Lib.hid ht
  clear ht
  have B := Lib.hid (B.out.trans (hb.mono B.out.size))
  have E := Lib.hid (E.out.below hb)
  have X := Lib.hid ((hb.block _ (bk_lt X.out)).trans X.out)
  have R := Lib.hid ((R.out.keep hb).low)
  clear hb
  go_wp2_with fail
  refine (HL1.out _ _ _ E.out T.out).mono ?_
  rintro e4 w4 ⟨rfl, hb⟩
  have B := Lib.hid (B.out.trans (hb.mono B.out.size))
  have E := Lib.hid (E.out.below hb)
  have X := Lib.hid ((hb.block _ (bk_lt X.out)).trans X.out)
  have R := Lib.hid ((R.out.keep hb).low)
  have T := Lib.hid (T.out.below hb)
  clear hb
  go_upto_region 9 with fail
  obtain ⟨X4, hX⟩ : ∃ X, X = w4.alloc (.cells #[.int .i64 K.y, .int .i64 K.m, .int .i64 K.d, .int .i64 K.h, .int .i64 K.i, .int .i64 K.s, .int .i64 K.n, .int .i64 K.o] 26) := ⟨_, rfl⟩
  rw [← hX]
  have hb : Below w4.heap.size w4 X4 := by rw [hX]; exact bel_new _ _
  have Pk : Hid (Lk 26 X4 w4.heap.size K) := Lib.hid (by rw [hX]; exact lk_new _ _ K)
  have B := Lib.hid (B.out.trans (hb.mono B.out.size))
  have E := Lib.hid (E.out.below hb)
  have X := Lib.hid ((hb.block _ (bk_lt X.out)).trans X.out)
  have R := Lib.hid ((R.out.keep hb).low)
  have T := Lib.hid (T.out.below hb)
  clear hb
  clear hX
  obtain ⟨gPk, hg⟩ : ∃ g, g = w4.heap.size := ⟨_, rfl⟩
  rw [← hg] at Pk ⊢
  clear hg
  go_wp2_with fail
  refine (HL2.out _ _ _ E.out T.out).mono ?_
  rintro e5 w5 ⟨rfl, hb⟩
  have B := Lib.hid (B.out.trans (hb.mono B.out.size))
  have E := Lib.hid (E.out.below hb)
  have X := Lib.hid ((hb.block _ (bk_lt X.out)).trans X.out)
  have R := Lib.hid ((R.out.keep hb).low)
  have T := Lib.hid (T.out.below hb)
  have Pk := Lib.hid (Pk.out.keep hb)
  clear hb
  go_upto_region 10 with fail
  obtain ⟨X5, hX⟩ : ∃ X, X = w5.alloc (.cells #[.int .i64 J.y, .int .i64 J.m, .int .i64 J.d, .int .i64 J.h, .int .i64 J.i, .int .i64 J.s, .int .i64 J.n, .int .i64 J.o] 26) := ⟨_, rfl⟩
  rw [← hX]
  have hb : Below w5.heap.size w5 X5 := by rw [hX]; exact bel_new _ _
  have Pj : Hid (Lk 26 X5 w5.heap.size J) := Lib.hid (by rw [hX]; exact lk_new _ _ J)
  have B := Lib.hid (B.out.trans (hb.mono B.out.size))
  have E := Lib.hid (E.out.below hb)
  have X := Lib.hid ((hb.block _ (bk_lt X.out)).trans X.out)
  have R := Lib.hid ((R.out.keep hb).low)
  have T := Lib.hid (T.out.below hb)
  have Pk := Lib.hid (Pk.out.keep hb)
  clear hb
  clear hX
  obtain ⟨gPj, hg⟩ : ∃ g, g = w5.heap.size := ⟨_, rfl⟩
  rw [← hg] at Pj ⊢
  clear hg
  go_wp2_with fail
  go_ret
  exact ⟨rfl, B.out⟩

set_option maxRecDepth 100000 in
set_option maxHeartbeats 4000000 in
theorem steps12_b (A : Option Addr) (c : Nat) (L : List Rw) (u e : Int) (t : Int) (w : World) (he : Ends w) (hr : Rp w.heap.size w A L) (hA : A = none → c = 0 ∧ L = []) (hc : L.length ≤ c) (hm : c ≤ maxLen) (hshort : ¬ 296 < L.length) (hg : ¬ 1125899906842624 < t) (hf : ¬ t < -1125899906842624) (hk : lkE L u e = 0) (hm1 : mlE L t 0 0 = 0) (hm2 : mlE L (t + 1) 0 0 ≠ 0) :
    Calls Tryd.prog 7 #[.agg #[.slice A L.length c, .int .i64 u, .int .i64 e], .int .i64 t] w fun x w' => x = .returned (.bool true) ∧ Below w.heap.size w w' := by
  obtain ⟨W0, hW0, b0, s0, g0⟩ := raw_new w A L.length c u e
  clear s0
  have B := Lib.hid b0
  have E := Lib.hid (he.below b0)
  have X := Lib.hid g0
  have R := Lib.hid (hr.keep b0).low
  have HAl := Lib.hid (fun W he => alive12_any W he)
  have HLo := Lib.hid (fun W => long10_any A L.length c u e W)
  have q0 := fun op t W x k => guard_ev op t W x k
  have q1 := fun W k => eql_ev W k
  have q2 := fun W k => neq_ev W k
  rw [decide_eq_false hshort] at HLo
  have V := (lkE_zero hk).1
  have HN := Lib.hid (fun W (he : Ends W) (hr : Rp W.heap.size W A L) => new_some A c L u e W he (by omega) hr hA hc hm hk)
  obtain ⟨K, hK⟩ := ml_ex L t 0 0
  obtain ⟨J, hJ⟩ := ml_ex L (t + 1) 0 0
  have HL1 := Lib.hid (fun (lo g : Nat) (W : World) (h1 : Ends W) (h2 : Tb lo W g L u e) => label12_any t 0 0 (by unfold fits; omega) h1 h2 V hK)
  have HL2 := Lib.hid (fun (lo g : Nat) (W : World) (h1 : Ends W) (h2 : Tb lo W g L u e) => label12_any (t + 1) 0 0 (by unfold fits; omega) h1 h2 V hJ)
  change Hid (∀ lo g W, Ends W → _ → Calls _ _ _ W fun e w' => e = .returned (.tuple #[.agg #[.int .i64 K.y, .int .i64 K.m, .int .i64 K.d, .int .i64 K.h, .int .i64 K.i, .int .i64 K.s, .int .i64 K.n, .int .i64 K.o], _]) ∧ _) at HL1
  change Hid (∀ lo g W, Ends W → _ → Calls _ _ _ W fun e w' => e = .returned (.tuple #[.agg #[.int .i64 J.y, .int .i64 J.m, .int .i64 J.d, .int .i64 J.h, .int .i64 J.i, .int .i64 J.s, .int .i64 J.n, .int .i64 J.o], _]) ∧ _) at HL2
  have wt : wrap64 (t + 1) = t + 1 := wrap64_fit (by unfold fits; omega)
  rw [hm1] at HL1
  have hmb : (mlE L (t + 1) 0 0 != 0) = true := bne_iff_ne.mpr hm2
  clear hshort hk hm1 hm2 V hK hJ
  clear b0 g0  he hr hA hc hm
  generalize mlE L (t + 1) 0 0 = e2 at *
  generalize L.length = N at *
  go_enter Tryd.func7, Tryd.ntmps7
  go_upto_region 1 with fail
  rw [← hW0]; clear hW0
  go_wp2_with fail
  refine (HAl.out _ E.out).mono ?_
  rintro e1 w1 ⟨rfl, hb⟩
  have B := Lib.hid (B.out.trans (hb.mono B.out.size))
  have E := Lib.hid (E.out.below hb)
  have X := Lib.hid ((hb.block _ (bk_lt X.out)).trans X.out)
  have R := Lib.hid ((R.out.keep hb).low)
  clear hb
  have cX0 := bk_cell X.out 0
  have cX1 := bk_cell X.out 1
  have cX2 := bk_cell X.out 2
  go_wp2_with fail
  refine (HLo.out _).mono ?_
  rintro e2 w2 ⟨rfl, hb⟩
  clear cX0 cX1 cX2
  have B := Lib.hid (B.out.trans (hb.mono B.out.size))
  have E := Lib.hid (E.out.below hb)
  have X := Lib.hid ((hb.block _ (bk_lt X.out)).trans X.out)
  have R := Lib.hid ((R.out.keep hb).low)
  clear hb
  have cX0 := bk_cell X.out 0
  have cX1 := bk_cell X.out 1
  have cX2 := bk_cell X.out 2
  go_wp2_with fail
  refine (HN.out _ E.out R.out).mono ?_
  rintro e3 w3 ⟨g, rfl, hb, ht⟩
  clear cX0 cX1 cX2
  have T := Lib.hid ht
  clear ht
  have B := Lib.hid (B.out.trans (hb.mono B.out.size))
  have E := Lib.hid (E.out.below hb)
  have X := Lib.hid ((hb.block _ (bk_lt X.out)).trans X.out)
  have R := Lib.hid ((R.out.keep hb).low)
  clear hb
  go_wp2_with fail
  refine (HL1.out _ _ _ E.out T.out).mono ?_
  rintro e4 w4 ⟨rfl, hb⟩
  have B := Lib.hid (B.out.trans (hb.mono B.out.size))
  have E := Lib.hid (E.out.below hb)
  have X := Lib.hid ((hb.block _ (bk_lt X.out)).trans X.out)
  have R := Lib.hid ((R.out.keep hb).low)
  have T := Lib.hid (T.out.below hb)
  clear hb
  go_upto_region 9 with fail
  obtain ⟨X4, hX⟩ : ∃ X, X = w4.alloc (.cells #[.int .i64 K.y, .int .i64 K.m, .int .i64 K.d, .int .i64 K.h, .int .i64 K.i, .int .i64 K.s, .int .i64 K.n, .int .i64 K.o] 26) := ⟨_, rfl⟩
  rw [← hX]
  have hb : Below w4.heap.size w4 X4 := by rw [hX]; exact bel_new _ _
  have Pk : Hid (Lk 26 X4 w4.heap.size K) := Lib.hid (by rw [hX]; exact lk_new _ _ K)
  have B := Lib.hid (B.out.trans (hb.mono B.out.size))
  have E := Lib.hid (E.out.below hb)
  have X := Lib.hid ((hb.block _ (bk_lt X.out)).trans X.out)
  have R := Lib.hid ((R.out.keep hb).low)
  have T := Lib.hid (T.out.below hb)
  clear hb
  clear hX
  obtain ⟨gPk, hg⟩ : ∃ g, g = w4.heap.size := ⟨_, rfl⟩
  rw [← hg] at Pk ⊢
  clear hg
  go_wp2_with fail
  refine (HL2.out _ _ _ E.out T.out).mono ?_
  rintro e5 w5 ⟨rfl, hb⟩
  have B := Lib.hid (B.out.trans (hb.mono B.out.size))
  have E := Lib.hid (E.out.below hb)
  have X := Lib.hid ((hb.block _ (bk_lt X.out)).trans X.out)
  have R := Lib.hid ((R.out.keep hb).low)
  have T := Lib.hid (T.out.below hb)
  have Pk := Lib.hid (Pk.out.keep hb)
  clear hb
  go_upto_region 10 with fail
  obtain ⟨X5, hX⟩ : ∃ X, X = w5.alloc (.cells #[.int .i64 J.y, .int .i64 J.m, .int .i64 J.d, .int .i64 J.h, .int .i64 J.i, .int .i64 J.s, .int .i64 J.n, .int .i64 J.o] 26) := ⟨_, rfl⟩
  rw [← hX]
  have hb : Below w5.heap.size w5 X5 := by rw [hX]; exact bel_new _ _
  have Pj : Hid (Lk 26 X5 w5.heap.size J) := Lib.hid (by rw [hX]; exact lk_new _ _ J)
  have B := Lib.hid (B.out.trans (hb.mono B.out.size))
  have E := Lib.hid (E.out.below hb)
  have X := Lib.hid ((hb.block _ (bk_lt X.out)).trans X.out)
  have R := Lib.hid ((R.out.keep hb).low)
  have T := Lib.hid (T.out.below hb)
  have Pk := Lib.hid (Pk.out.keep hb)
  clear hb
  clear hX
  obtain ⟨gPj, hg⟩ : ∃ g, g = w5.heap.size := ⟨_, rfl⟩
  rw [← hg] at Pj ⊢
  clear hg
  go_wp2_with fail
  go_ret
  exact ⟨rfl, B.out⟩

set_option maxRecDepth 100000 in
set_option maxHeartbeats 4000000 in
theorem steps12_ok (A : Option Addr) (c : Nat) (L : List Rw) (u e : Int) (t : Int) (w : World) (he : Ends w) (hr : Rp w.heap.size w A L) (hA : A = none → c = 0 ∧ L = []) (hc : L.length ≤ c) (hm : c ≤ maxLen) (hshort : ¬ 296 < L.length) (hg : ¬ 1125899906842624 < t) (hf : ¬ t < -1125899906842624) (hk : lkE L u e = 0) (hm1 : mlE L t 0 0 = 0) (hm2 : mlE L (t + 1) 0 0 = 0) :
    Calls Tryd.prog 7 #[.agg #[.slice A L.length c, .int .i64 u, .int .i64 e], .int .i64 t] w fun x w' => x = .returned (.bool true) ∧ Below w.heap.size w w' := by
  obtain ⟨W0, hW0, b0, s0, g0⟩ := raw_new w A L.length c u e
  clear s0
  have B := Lib.hid b0
  have E := Lib.hid (he.below b0)
  have X := Lib.hid g0
  have R := Lib.hid (hr.keep b0).low
  have HAl := Lib.hid (fun W he => alive12_any W he)
  have HLo := Lib.hid (fun W => long10_any A L.length c u e W)
  have q0 := fun op t W x k => guard_ev op t W x k
  have q1 := fun W k => eql_ev W k
  have q2 := fun W k => neq_ev W k
  rw [decide_eq_false hshort] at HLo
  have V := (lkE_zero hk).1
  have HN := Lib.hid (fun W (he : Ends W) (hr : Rp W.heap.size W A L) => new_some A c L u e W he (by omega) hr hA hc hm hk)
  obtain ⟨K, hK⟩ := ml_ex L t 0 0
  obtain ⟨J, hJ⟩ := ml_ex L (t + 1) 0 0
  have HL1 := Lib.hid (fun (lo g : Nat) (W : World) (h1 : Ends W) (h2 : Tb lo W g L u e) => label12_any t 0 0 (by unfold fits; omega) h1 h2 V hK)
  have HL2 := Lib.hid (fun (lo g : Nat) (W : World) (h1 : Ends W) (h2 : Tb lo W g L u e) => label12_any (t + 1) 0 0 (by unfold fits; omega) h1 h2 V hJ)
  change Hid (∀ lo g W, Ends W → _ → Calls _ _ _ W fun e w' => e = .returned (.tuple #[.agg #[.int .i64 K.y, .int .i64 K.m, .int .i64 K.d, .int .i64 K.h, .int .i64 K.i, .int .i64 K.s, .int .i64 K.n, .int .i64 K.o], _]) ∧ _) at HL1
  change Hid (∀ lo g W, Ends W → _ → Calls _ _ _ W fun e w' => e = .returned (.tuple #[.agg #[.int .i64 J.y, .int .i64 J.m, .int .i64 J.d, .int .i64 J.h, .int .i64 J.i, .int .i64 J.s, .int .i64 J.n, .int .i64 J.o], _]) ∧ _) at HL2
  have wt : wrap64 (t + 1) = t + 1 := wrap64_fit (by unfold fits; omega)
  obtain ⟨f1, f2, f3, f4, f5, f6, f7⟩ := steps_facts V hm1 hm2 hK hJ
  rw [hm1] at HL1
  rw [hm2] at HL2
  have HC := Lib.hid (fun (W : World) (h1 : Ends W) => lcompare_any K J W h1)
  rw [f1, f2] at HC
  have HT := Lib.hid (fun (lo g : Nat) (W : World) (h1 : Ends W) (h2 : Tb lo W g L u e) => tai12_any J h1 h2 V)
  rw [f3, f4] at HT
  have HPf := Lib.hid (fun (lo g : Nat) (W : World) (h2 : Tb lo W g L u e) => posixof_any t (by unfold fits; omega) h2 V)
  have HAh := Lib.hid (fun (lo g : Nat) (W : World) (h2 : Tb lo W g L u e) => ahead_any t (by unfold fits; omega) h2 V)
  rw [f5, f6] at HPf
  rw [f5] at HAh
  have HLp := Lib.hid (fun (W : World) (h1 : Ends W) => lleap_any K W h1)
  rw [f7] at HLp
  have ab : 0 ≤ ahV L t ∧ ahV L t ≤ 1000 := by have := V.ofN_bd (tpN L t); unfold ahV; split <;> omega
  have wt2 : wrap64 (t - ahV L t) = t - ahV L t := wrap64_fit (by unfold fits; omega)
  clear hshort hk hm1 hm2 V hK hJ f1 f2 f3 f4 f5 f6 f7
  clear b0 g0  he hr hA hc hm
  generalize ahV L t = av at *
  generalize pfB L t = pb at *
  generalize L.length = N at *
  go_enter Tryd.func7, Tryd.ntmps7
  go_upto_region 1 with fail
  rw [← hW0]; clear hW0
  go_wp2_with fail
  refine (HAl.out _ E.out).mono ?_
  rintro e1 w1 ⟨rfl, hb⟩
  have B := Lib.hid (B.out.trans (hb.mono B.out.size))
  have E := Lib.hid (E.out.below hb)
  have X := Lib.hid ((hb.block _ (bk_lt X.out)).trans X.out)
  have R := Lib.hid ((R.out.keep hb).low)
  clear hb
  have cX0 := bk_cell X.out 0
  have cX1 := bk_cell X.out 1
  have cX2 := bk_cell X.out 2
  go_wp2_with fail
  refine (HLo.out _).mono ?_
  rintro e2 w2 ⟨rfl, hb⟩
  clear cX0 cX1 cX2
  have B := Lib.hid (B.out.trans (hb.mono B.out.size))
  have E := Lib.hid (E.out.below hb)
  have X := Lib.hid ((hb.block _ (bk_lt X.out)).trans X.out)
  have R := Lib.hid ((R.out.keep hb).low)
  clear hb
  have cX0 := bk_cell X.out 0
  have cX1 := bk_cell X.out 1
  have cX2 := bk_cell X.out 2
  go_wp2_with fail
  refine (HN.out _ E.out R.out).mono ?_
  rintro e3 w3 ⟨g, rfl, hb, ht⟩
  clear cX0 cX1 cX2
  have T := Lib.hid ht
  clear ht
  have B := Lib.hid (B.out.trans (hb.mono B.out.size))
  have E := Lib.hid (E.out.below hb)
  have X := Lib.hid ((hb.block _ (bk_lt X.out)).trans X.out)
  have R := Lib.hid ((R.out.keep hb).low)
  clear hb
  go_wp2_with fail
  refine (HL1.out _ _ _ E.out T.out).mono ?_
  rintro e4 w4 ⟨rfl, hb⟩
  have B := Lib.hid (B.out.trans (hb.mono B.out.size))
  have E := Lib.hid (E.out.below hb)
  have X := Lib.hid ((hb.block _ (bk_lt X.out)).trans X.out)
  have R := Lib.hid ((R.out.keep hb).low)
  have T := Lib.hid (T.out.below hb)
  clear hb
  go_upto_region 9 with fail
  obtain ⟨X4, hX⟩ : ∃ X, X = w4.alloc (.cells #[.int .i64 K.y, .int .i64 K.m, .int .i64 K.d, .int .i64 K.h, .int .i64 K.i, .int .i64 K.s, .int .i64 K.n, .int .i64 K.o] 26) := ⟨_, rfl⟩
  rw [← hX]
  have hb : Below w4.heap.size w4 X4 := by rw [hX]; exact bel_new _ _
  have Pk : Hid (Lk 26 X4 w4.heap.size K) := Lib.hid (by rw [hX]; exact lk_new _ _ K)
  have B := Lib.hid (B.out.trans (hb.mono B.out.size))
  have E := Lib.hid (E.out.below hb)
  have X := Lib.hid ((hb.block _ (bk_lt X.out)).trans X.out)
  have R := Lib.hid ((R.out.keep hb).low)
  have T := Lib.hid (T.out.below hb)
  clear hb
  clear hX
  obtain ⟨gPk, hg⟩ : ∃ g, g = w4.heap.size := ⟨_, rfl⟩
  rw [← hg] at Pk ⊢
  clear hg
  go_wp2_with fail
  refine (HL2.out _ _ _ E.out T.out).mono ?_
  rintro e5 w5 ⟨rfl, hb⟩
  have B := Lib.hid (B.out.trans (hb.mono B.out.size))
  have E := Lib.hid (E.out.below hb)
  have X := Lib.hid ((hb.block _ (bk_lt X.out)).trans X.out)
  have R := Lib.hid ((R.out.keep hb).low)
  have T := Lib.hid (T.out.below hb)
  have Pk := Lib.hid (Pk.out.keep hb)
  clear hb
  go_upto_region 10 with fail
  obtain ⟨X5, hX⟩ : ∃ X, X = w5.alloc (.cells #[.int .i64 J.y, .int .i64 J.m, .int .i64 J.d, .int .i64 J.h, .int .i64 J.i, .int .i64 J.s, .int .i64 J.n, .int .i64 J.o] 26) := ⟨_, rfl⟩
  rw [← hX]
  have hb : Below w5.heap.size w5 X5 := by rw [hX]; exact bel_new _ _
  have Pj : Hid (Lk 26 X5 w5.heap.size J) := Lib.hid (by rw [hX]; exact lk_new _ _ J)
  have B := Lib.hid (B.out.trans (hb.mono B.out.size))
  have E := Lib.hid (E.out.below hb)
  have X := Lib.hid ((hb.block _ (bk_lt X.out)).trans X.out)
  have R := Lib.hid ((R.out.keep hb).low)
  have T := Lib.hid (T.out.below hb)
  have Pk := Lib.hid (Pk.out.keep hb)
  clear hb
  clear hX
  obtain ⟨gPj, hg⟩ : ∃ g, g = w5.heap.size := ⟨_, rfl⟩
  rw [← hg] at Pj ⊢
  clear hg
  obtain ⟨cPk0, cPk1, cPk2, cPk3, cPk4, cPk5, cPk6, cPk7⟩ := Pk.out.all
  obtain ⟨cPj0, cPj1, cPj2, cPj3, cPj4, cPj5, cPj6, cPj7⟩ := Pj.out.all
  go_wp2_with fail
  refine (HC.out _ E.out).mono ?_
  rintro e6 w6 ⟨rfl, hb⟩
  clear cPk0 cPk1 cPk2 cPk3 cPk4 cPk5 cPk6 cPk7 cPj0 cPj1 cPj2 cPj3 cPj4 cPj5 cPj6 cPj7
  have B := Lib.hid (B.out.trans (hb.mono B.out.size))
  have E := Lib.hid (E.out.below hb)
  have X := Lib.hid ((hb.block _ (bk_lt X.out)).trans X.out)
  have R := Lib.hid ((R.out.keep hb).low)
  have T := Lib.hid (T.out.below hb)
  have Pk := Lib.hid (Pk.out.keep hb)
  have Pj := Lib.hid (Pj.out.keep hb)
  clear hb
  obtain ⟨cPj0, cPj1, cPj2, cPj3, cPj4, cPj5, cPj6, cPj7⟩ := Pj.out.all
  go_wp2_with fail
  refine (HT.out _ _ _ E.out T.out).mono ?_
  rintro e7 w7 ⟨rfl, hb⟩
  clear cPj0 cPj1 cPj2 cPj3 cPj4 cPj5 cPj6 cPj7
  have B := Lib.hid (B.out.trans (hb.mono B.out.size))
  have E := Lib.hid (E.out.below hb)
  have X := Lib.hid ((hb.block _ (bk_lt X.out)).trans X.out)
  have R := Lib.hid ((R.out.keep hb).low)
  have T := Lib.hid (T.out.below hb)
  have Pk := Lib.hid (Pk.out.keep hb)
  have Pj := Lib.hid (Pj.out.keep hb)
  clear hb
  go_wp2_with fail
  refine (HPf.out _ _ _ T.out).mono ?_
  rintro e8 w8 ⟨rfl, hb⟩
  have B := Lib.hid (B.out.trans (hb.mono B.out.size))
  have E := Lib.hid (E.out.below hb)
  have X := Lib.hid ((hb.block _ (bk_lt X.out)).trans X.out)
  have R := Lib.hid ((R.out.keep hb).low)
  have T := Lib.hid (T.out.below hb)
  have Pk := Lib.hid (Pk.out.keep hb)
  have Pj := Lib.hid (Pj.out.keep hb)
  clear hb
  go_wp2_with fail
  refine (HAh.out _ _ _ T.out).mono ?_
  rintro e9 w9 ⟨rfl, hb⟩
  have B := Lib.hid (B.out.trans (hb.mono B.out.size))
  have E := Lib.hid (E.out.below hb)
  have X := Lib.hid ((hb.block _ (bk_lt X.out)).trans X.out)
  have R := Lib.hid ((R.out.keep hb).low)
  have T := Lib.hid (T.out.below hb)
  have Pk := Lib.hid (Pk.out.keep hb)
  have Pj := Lib.hid (Pj.out.keep hb)
  clear hb
  obtain ⟨cPk0, cPk1, cPk2, cPk3, cPk4, cPk5, cPk6, cPk7⟩ := Pk.out.all
  go_wp2_with fail
  refine (HLp.out _ E.out).mono ?_
  rintro e10 w10 ⟨rfl, hb⟩
  clear cPk0 cPk1 cPk2 cPk3 cPk4 cPk5 cPk6 cPk7
  have B := Lib.hid (B.out.trans (hb.mono B.out.size))
  have E := Lib.hid (E.out.below hb)
  have X := Lib.hid ((hb.block _ (bk_lt X.out)).trans X.out)
  have R := Lib.hid ((R.out.keep hb).low)
  have T := Lib.hid (T.out.below hb)
  have Pk := Lib.hid (Pk.out.keep hb)
  have Pj := Lib.hid (Pj.out.keep hb)
  clear hb
  go_wp2_with fail
  go_ret
  exact ⟨rfl, B.out⟩

theorem steps12_walk (A : Option Addr) (c : Nat) (L : List Rw) (u e : Int) (t : Int) (ht : fits t) (w : World) (he : Ends w) (hr : Rp w.heap.size w A L) (hA : A = none → c = 0 ∧ L = []) (hc : L.length ≤ c) (hm : c ≤ maxLen) :
    Calls Tryd.prog 7 #[.agg #[.slice A L.length c, .int .i64 u, .int .i64 e], .int .i64 t] w fun x w' => x = .returned (.bool true) ∧ Below w.heap.size w w' := by
  by_cases hl : 296 < L.length
  · exact steps12_long A c L u e t w he hr hA hc hm ht hl
  by_cases h1 : 1125899906842624 < t
  · exact steps12_hi A c L u e t w he hr hA hc hm hl h1
  by_cases h2 : t < -1125899906842624
  · exact steps12_lo A c L u e t w he hr hA hc hm hl h1 h2
  by_cases hk : lkE L u e = 0
  rotate_left
  · exact steps12_new A c L u e t w he hr hA hc hm hl h1 h2 hk
  by_cases m1 : mlE L t 0 0 = 0
  rotate_left
  · exact steps12_a A c L u e t w he hr hA hc hm hl h1 h2 hk m1
  by_cases m2 : mlE L (t + 1) 0 0 = 0
  · exact steps12_ok A c L u e t w he hr hA hc hm hl h1 h2 hk m1 m2
  · exact steps12_b A c L u e t w he hr hA hc hm hl h1 h2 hk m1 m2

end Go.Proofs.YtiamggjebaabkaaDoor
