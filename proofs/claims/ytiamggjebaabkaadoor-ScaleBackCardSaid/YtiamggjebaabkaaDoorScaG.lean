/- ScaleBack. Written by gen_scl.py. -/
import Derived.Test.YtiamggjebaabkaaDoorScaF
import Derived.Test.YtiamggjebaabkaaDoorLabE
namespace Go.Proofs.YtiamggjebaabkaaDoor
open Go.RowKit
set_option linter.unusedVariables false
set_option linter.unusedSimpArgs false

theorem lb_fit {l : Lb} (h : lbE l = 0) : -1439 ≤ l.o ∧ l.o ≤ 1439 := (lbE_zero h).2.2.2.1
/-- The label of a label's atomic seconds is that label. -/
theorem ml_back {L : List Rw} (V : Vr L) {a : Lb} (h : taE L a = 0) : Ml L (taV L a) a.n a.o a ∧ mlE L (taV L a) a.n a.o = 0 := by
  obtain ⟨z, h1, h2⟩ := taE_zero h
  obtain ⟨k0, k1, k2⟩ := tp_pl V (ta_pl h)
  have nb := lbN_bd a
  obtain ⟨m0, m1⟩ := moment_mk z
  have e : tpE L (taV L a) = 0 := by unfold tpE; rw [if_neg k0, k1, if_neg (by omega)]
  refine ⟨.inl ⟨e, by rw [k1, k2]; exact m1⟩, ?_⟩
  unfold mlE
  rw [if_pos e, k1, k2, m0]
theorem cmp_ta {L : List Rw} (V : Vr L) {a b : Lb} (ha : taE L a = 0) (hb : taE L b = 0) :
    (cmV a b = -1 ∧ taV L a < taV L b) ∨ (cmV a b = -1 ∧ taV L a = taV L b ∧ a.n < b.n) ∨ (cmV a b = 0 ∧ taV L a = taV L b) ∨ (cmV a b = 1 ∧ taV L b < taV L a) ∨ (cmV a b = 1 ∧ taV L a = taV L b ∧ b.n < a.n) := by
  have pa := ta_pl ha; have pb := ta_pl hb
  have za := (taE_zero ha).1; have zb := (taE_zero hb).1
  have e : cmV a b = cm3 a b := by unfold cmV cmE; rw [if_pos za, if_pos zb]
  rw [e]
  have lt := fun h => pl_lt V pa pb h
  have gt := fun h => pl_lt V pb pa h
  have same : lbN a = lbN b → taV L b - taV L a = lbT b - lbT a := fun h => by rw [h] at pa; exact pl_same pa pb
  rcases cm3_is a b with ⟨h, h1 | ⟨h1, h2 | ⟨h2, h3⟩⟩⟩ | ⟨h, h1 | ⟨h1, h2 | ⟨h2, h3⟩⟩⟩ | ⟨h, h1, h2, h3⟩
  · exact .inl ⟨h, lt h1⟩
  · have := same h1; exact .inl ⟨h, by omega⟩
  · have := same h1; exact .inr (.inl ⟨h, by omega, h3⟩)
  · exact .inr (.inr (.inr (.inl ⟨h, gt h1⟩)))
  · have := same h1; exact .inr (.inr (.inr (.inl ⟨h, by omega⟩)))
  · have := same h1; exact .inr (.inr (.inr (.inr ⟨h, by omega, h3⟩)))
  · have := same h1; exact .inr (.inr (.inl ⟨h, by omega⟩))
theorem cmE_ta {L : List Rw} {a b : Lb} (ha : taE L a = 0) (hb : taE L b = 0) : cmE a b = 0 := by
  unfold cmE; rw [if_pos (taE_zero ha).1]; exact (taE_zero hb).1

set_option maxRecDepth 100000 in
set_option maxHeartbeats 4000000 in
theorem back12_long (A : Option Addr) (c : Nat) (L : List Rw) (u e : Int) (a b : Lb) (w : World) (he : Ends w) (hr : Rp w.heap.size w A L) (hA : A = none → c = 0 ∧ L = []) (hc : L.length ≤ c) (hm : c ≤ maxLen) (hlong : 296 < L.length) :
    Calls Tryd.prog 6 #[.agg #[.slice A L.length c, .int .i64 u, .int .i64 e], .agg a.cells, .agg b.cells] w fun x w' => x = .returned (.bool true) ∧ Below w.heap.size w w' := by
  obtain ⟨W0, hW0, b0, g0, la, lb⟩ := rll_box w A L.length c u e a b
  have B := Lib.hid b0
  have E := Lib.hid (he.below b0)
  have X := Lib.hid g0
  have R := Lib.hid (hr.keep b0).low
  have Pa := Lib.hid la
  have Pb := Lib.hid lb
  have HAl := Lib.hid (fun W he => alive12_any W he)
  have HLo := Lib.hid (fun W => long10_any A L.length c u e W)
  have q0 := fun op t W x k => guard_ev op t W x k
  have q1 := fun W k => eql_ev W k
  have q2 := fun W k => neq_ev W k
  rw [decide_eq_true hlong] at HLo
  clear hlong
  clear b0 g0 la lb he hr hA hc hm
  generalize L.length = N at *
  go_enter Tryd.func6, Tryd.ntmps6
  go_upto_region 1 with fail
  rw [← hW0]; clear hW0
  go_wp2_with fail
  refine (HAl.out _ E.out).mono ?_
  rintro e1 w1 ⟨rfl, hb⟩
  have B := Lib.hid (B.out.trans (hb.mono B.out.size))
  have E := Lib.hid (E.out.below hb)
  have X := Lib.hid ((hb.block _ (bk_lt X.out)).trans X.out)
  have R := Lib.hid ((R.out.keep hb).low)
  have Pa := Lib.hid (Pa.out.keep hb)
  have Pb := Lib.hid (Pb.out.keep hb)
  clear hb
  have cX0 := bk_cell X.out 0
  have cX1 := bk_cell X.out 1
  have cX2 := bk_cell X.out 2
  go_wp2_with fail
  refine (HLo.out _).mono ?_
  rintro e2 w2 ⟨rfl, hb⟩
  clear cX0 cX1 cX2
  have B := Lib.hid (B.out.trans (hb.mono B.out.size))
  have E := Lib.hid (E.out.below hb)
  have X := Lib.hid ((hb.block _ (bk_lt X.out)).trans X.out)
  have R := Lib.hid ((R.out.keep hb).low)
  have Pa := Lib.hid (Pa.out.keep hb)
  have Pb := Lib.hid (Pb.out.keep hb)
  clear hb
  have cX0 := bk_cell X.out 0
  have cX1 := bk_cell X.out 1
  have cX2 := bk_cell X.out 2
  go_wp2_with fail
  go_ret
  exact ⟨rfl, B.out⟩

set_option maxRecDepth 100000 in
set_option maxHeartbeats 4000000 in
theorem back12_new (A : Option Addr) (c : Nat) (L : List Rw) (u e : Int) (a b : Lb) (w : World) (he : Ends w) (hr : Rp w.heap.size w A L) (hA : A = none → c = 0 ∧ L = []) (hc : L.length ≤ c) (hm : c ≤ maxLen) (hshort : ¬ 296 < L.length) (hk : lkE L u e ≠ 0) :
    Calls Tryd.prog 6 #[.agg #[.slice A L.length c, .int .i64 u, .int .i64 e], .agg a.cells, .agg b.cells] w fun x w' => x = .returned (.bool true) ∧ Below w.heap.size w w' := by
  obtain ⟨W0, hW0, b0, g0, la, lb⟩ := rll_box w A L.length c u e a b
  have B := Lib.hid b0
  have E := Lib.hid (he.below b0)
  have X := Lib.hid g0
  have R := Lib.hid (hr.keep b0).low
  have Pa := Lib.hid la
  have Pb := Lib.hid lb
  have HAl := Lib.hid (fun W he => alive12_any W he)
  have HLo := Lib.hid (fun W => long10_any A L.length c u e W)
  have q0 := fun op t W x k => guard_ev op t W x k
  have q1 := fun W k => eql_ev W k
  have q2 := fun W k => neq_ev W k
  rw [decide_eq_false hshort] at HLo
  have HN := Lib.hid (fun W (he : Ends W) (hr : Rp W.heap.size W A L) => new_no A c L u e W he (by omega) hr hc hm hk)
  have hkb : (lkE L u e != 0) = true := bne_iff_ne.mpr hk
  generalize lkE L u e = k at *
  clear hshort hk
  clear b0 g0 la lb he hr hA hc hm
  generalize L.length = N at *
  go_enter Tryd.func6, Tryd.ntmps6
  go_upto_region 1 with fail
  rw [← hW0]; clear hW0
  go_wp2_with fail
  refine (HAl.out _ E.out).mono ?_
  rintro e1 w1 ⟨rfl, hb⟩
  have B := Lib.hid (B.out.trans (hb.mono B.out.size))
  have E := Lib.hid (E.out.below hb)
  have X := Lib.hid ((hb.block _ (bk_lt X.out)).trans X.out)
  have R := Lib.hid ((R.out.keep hb).low)
  have Pa := Lib.hid (Pa.out.keep hb)
  have Pb := Lib.hid (Pb.out.keep hb)
  clear hb
  have cX0 := bk_cell X.out 0
  have cX1 := bk_cell X.out 1
  have cX2 := bk_cell X.out 2
  go_wp2_with fail
  refine (HLo.out _).mono ?_
  rintro e2 w2 ⟨rfl, hb⟩
  clear cX0 cX1 cX2
  have B := Lib.hid (B.out.trans (hb.mono B.out.size))
  have E := Lib.hid (E.out.below hb)
  have X := Lib.hid ((hb.block _ (bk_lt X.out)).trans X.out)
  have R := Lib.hid ((R.out.keep hb).low)
  have Pa := Lib.hid (Pa.out.keep hb)
  have Pb := Lib.hid (Pb.out.keep hb)
  clear hb
  have cX0 := bk_cell X.out 0
  have cX1 := bk_cell X.out 1
  have cX2 := bk_cell X.out 2
  go_wp2_with fail
  refine (HN.out _ E.out R.out).mono ?_
  rintro e3 w3 ⟨rfl, hb⟩
  clear cX0 cX1 cX2
  have B := Lib.hid (B.out.trans (hb.mono B.out.size))
  have E := Lib.hid (E.out.below hb)
  have X := Lib.hid ((hb.block _ (bk_lt X.out)).trans X.out)
  have R := Lib.hid ((R.out.keep hb).low)
  have Pa := Lib.hid (Pa.out.keep hb)
  have Pb := Lib.hid (Pb.out.keep hb)
  clear hb
  go_wp2_with fail
  go_ret
  exact ⟨rfl, B.out⟩

set_option maxRecDepth 100000 in
set_option maxHeartbeats 4000000 in
theorem back12_a (A : Option Addr) (c : Nat) (L : List Rw) (u e : Int) (a b : Lb) (w : World) (he : Ends w) (hr : Rp w.heap.size w A L) (hA : A = none → c = 0 ∧ L = []) (hc : L.length ≤ c) (hm : c ≤ maxLen) (hshort : ¬ 296 < L.length) (hk : lkE L u e = 0) (ha : taE L a ≠ 0) :
    Calls Tryd.prog 6 #[.agg #[.slice A L.length c, .int .i64 u, .int .i64 e], .agg a.cells, .agg b.cells] w fun x w' => x = .returned (.bool true) ∧ Below w.heap.size w w' := by
  obtain ⟨W0, hW0, b0, g0, la, lb⟩ := rll_box w A L.length c u e a b
  have B := Lib.hid b0
  have E := Lib.hid (he.below b0)
  have X := Lib.hid g0
  have R := Lib.hid (hr.keep b0).low
  have Pa := Lib.hid la
  have Pb := Lib.hid lb
  have HAl := Lib.hid (fun W he => alive12_any W he)
  have HLo := Lib.hid (fun W => long10_any A L.length c u e W)
  have q0 := fun op t W x k => guard_ev op t W x k
  have q1 := fun W k => eql_ev W k
  have q2 := fun W k => neq_ev W k
  rw [decide_eq_false hshort] at HLo
  have V := (lkE_zero hk).1
  have HN := Lib.hid (fun W (he : Ends W) (hr : Rp W.heap.size W A L) => new_some A c L u e W he (by omega) hr hA hc hm hk)
  have HTa := Lib.hid (fun (lo g : Nat) (W : World) (h1 : Ends W) (h2 : Tb lo W g L u e) => tai12_any a h1 h2 V)
  have HTb := Lib.hid (fun (lo g : Nat) (W : World) (h1 : Ends W) (h2 : Tb lo W g L u e) => tai12_any b h1 h2 V)
  have HBw := Lib.hid (fun (lo g : Nat) (W : World) (h1 : Ends W) (h2 : Tb lo W g L u e) => between_any a b h1 h2 V)
  unfold bwV bwE at HBw
  rw [if_neg ha, if_neg ha] at HBw
  have hab : (taE L a != 0) = true := bne_iff_ne.mpr ha
  have EB := Lib.hid (taE_lo L a)
  clear hshort hk ha V
  generalize taE L a = ea at *
  generalize taV L a = va at *
  generalize taE L b = eb at *
  generalize taV L b = vb at *
  clear b0 g0 la lb he hr hA hc hm
  generalize L.length = N at *
  go_enter Tryd.func6, Tryd.ntmps6
  go_upto_region 1 with fail
  rw [← hW0]; clear hW0
  go_wp2_with fail
  refine (HAl.out _ E.out).mono ?_
  rintro e1 w1 ⟨rfl, hb⟩
  have B := Lib.hid (B.out.trans (hb.mono B.out.size))
  have E := Lib.hid (E.out.below hb)
  have X := Lib.hid ((hb.block _ (bk_lt X.out)).trans X.out)
  have R := Lib.hid ((R.out.keep hb).low)
  have Pa := Lib.hid (Pa.out.keep hb)
  have Pb := Lib.hid (Pb.out.keep hb)
  clear hb
  have cX0 := bk_cell X.out 0
  have cX1 := bk_cell X.out 1
  have cX2 := bk_cell X.out 2
  go_wp2_with fail
  refine (HLo.out _).mono ?_
  rintro e2 w2 ⟨rfl, hb⟩
  clear cX0 cX1 cX2
  have B := Lib.hid (B.out.trans (hb.mono B.out.size))
  have E := Lib.hid (E.out.below hb)
  have X := Lib.hid ((hb.block _ (bk_lt X.out)).trans X.out)
  have R := Lib.hid ((R.out.keep hb).low)
  have Pa := Lib.hid (Pa.out.keep hb)
  have Pb := Lib.hid (Pb.out.keep hb)
  clear hb
  have cX0 := bk_cell X.out 0
  have cX1 := bk_cell X.out 1
  have cX2 := bk_cell X.out 2
  go_wp2_with fail
  refine (HN.out _ E.out R.out).mono ?_
  rintro e3 w3 ⟨g, rfl, hb, ht⟩
  clear cX0 cX1 cX2
  have T := Lib.hid ht
  clear ht
  have B := Lib.hid (B.out.trans (hb.mono B.out.size))
  have E := Lib.hid (E.out.below hb)
  have X := Lib.hid ((hb.block _ (bk_lt X.out)).trans X.out)
  have R := Lib.hid ((R.out.keep hb).low)
  have Pa := Lib.hid (Pa.out.keep hb)
  have Pb := Lib.hid (Pb.out.keep hb)
  clear hb
  obtain ⟨cPa0, cPa1, cPa2, cPa3, cPa4, cPa5, cPa6, cPa7⟩ := Pa.out.all
  go_wp2_with fail
  refine (HTa.out _ _ _ E.out T.out).mono ?_
  rintro e4 w4 ⟨rfl, hb⟩
  clear cPa0 cPa1 cPa2 cPa3 cPa4 cPa5 cPa6 cPa7
  have B := Lib.hid (B.out.trans (hb.mono B.out.size))
  have E := Lib.hid (E.out.below hb)
  have X := Lib.hid ((hb.block _ (bk_lt X.out)).trans X.out)
  have R := Lib.hid ((R.out.keep hb).low)
  have Pa := Lib.hid (Pa.out.keep hb)
  have Pb := Lib.hid (Pb.out.keep hb)
  have T := Lib.hid (T.out.below hb)
  clear hb
  obtain ⟨cPb0, cPb1, cPb2, cPb3, cPb4, cPb5, cPb6, cPb7⟩ := Pb.out.all
  go_wp2_with fail
  refine (HTb.out _ _ _ E.out T.out).mono ?_
  rintro e5 w5 ⟨rfl, hb⟩
  clear cPb0 cPb1 cPb2 cPb3 cPb4 cPb5 cPb6 cPb7
  have B := Lib.hid (B.out.trans (hb.mono B.out.size))
  have E := Lib.hid (E.out.below hb)
  have X := Lib.hid ((hb.block _ (bk_lt X.out)).trans X.out)
  have R := Lib.hid ((R.out.keep hb).low)
  have Pa := Lib.hid (Pa.out.keep hb)
  have Pb := Lib.hid (Pb.out.keep hb)
  have T := Lib.hid (T.out.below hb)
  clear hb
  obtain ⟨cPa0, cPa1, cPa2, cPa3, cPa4, cPa5, cPa6, cPa7⟩ := Pa.out.all
  obtain ⟨cPb0, cPb1, cPb2, cPb3, cPb4, cPb5, cPb6, cPb7⟩ := Pb.out.all
  go_wp2_with fail
  refine (HBw.out _ _ _ E.out T.out).mono ?_
  rintro e6 w6 ⟨rfl, hb⟩
  clear cPa0 cPa1 cPa2 cPa3 cPa4 cPa5 cPa6 cPa7 cPb0 cPb1 cPb2 cPb3 cPb4 cPb5 cPb6 cPb7
  have B := Lib.hid (B.out.trans (hb.mono B.out.size))
  have E := Lib.hid (E.out.below hb)
  have X := Lib.hid ((hb.block _ (bk_lt X.out)).trans X.out)
  have R := Lib.hid ((R.out.keep hb).low)
  have Pa := Lib.hid (Pa.out.keep hb)
  have Pb := Lib.hid (Pb.out.keep hb)
  have T := Lib.hid (T.out.below hb)
  clear hb
  go_wp2_with (go_at_call 13; with_reducible refine (num_any _ _ EB.out.1 EB.out.2).mono ?_; rintro e w' ⟨rfl, rfl⟩)
  go_ret
  exact ⟨rfl, B.out⟩

set_option maxRecDepth 100000 in
set_option maxHeartbeats 4000000 in
theorem back12_b (A : Option Addr) (c : Nat) (L : List Rw) (u e : Int) (a b : Lb) (w : World) (he : Ends w) (hr : Rp w.heap.size w A L) (hA : A = none → c = 0 ∧ L = []) (hc : L.length ≤ c) (hm : c ≤ maxLen) (hshort : ¬ 296 < L.length) (hk : lkE L u e = 0) (ha : taE L a = 0) (hb0 : taE L b ≠ 0) :
    Calls Tryd.prog 6 #[.agg #[.slice A L.length c, .int .i64 u, .int .i64 e], .agg a.cells, .agg b.cells] w fun x w' => x = .returned (.bool true) ∧ Below w.heap.size w w' := by
  obtain ⟨W0, hW0, b0, g0, la, lb⟩ := rll_box w A L.length c u e a b
  have B := Lib.hid b0
  have E := Lib.hid (he.below b0)
  have X := Lib.hid g0
  have R := Lib.hid (hr.keep b0).low
  have Pa := Lib.hid la
  have Pb := Lib.hid lb
  have HAl := Lib.hid (fun W he => alive12_any W he)
  have HLo := Lib.hid (fun W => long10_any A L.length c u e W)
  have q0 := fun op t W x k => guard_ev op t W x k
  have q1 := fun W k => eql_ev W k
  have q2 := fun W k => neq_ev W k
  rw [decide_eq_false hshort] at HLo
  have V := (lkE_zero hk).1
  have HN := Lib.hid (fun W (he : Ends W) (hr : Rp W.heap.size W A L) => new_some A c L u e W he (by omega) hr hA hc hm hk)
  have HTa := Lib.hid (fun (lo g : Nat) (W : World) (h1 : Ends W) (h2 : Tb lo W g L u e) => tai12_any a h1 h2 V)
  have HTb := Lib.hid (fun (lo g : Nat) (W : World) (h1 : Ends W) (h2 : Tb lo W g L u e) => tai12_any b h1 h2 V)
  have HBw := Lib.hid (fun (lo g : Nat) (W : World) (h1 : Ends W) (h2 : Tb lo W g L u e) => between_any a b h1 h2 V)
  unfold bwV bwE at HBw
  have HL := Lib.hid (fun (lo g : Nat) (W : World) (h1 : Ends W) (h2 : Tb lo W g L u e) => label12_any (taV L a) a.n a.o (by have := V.taV_bd a; unfold fits; omega) h1 h2 V (ml_back V ha).1)
  rw [(ml_back V ha).2] at HL
  change Hid (∀ lo g W, Ends W → _ → Calls _ _ _ W fun e w' => e = .returned (.tuple #[.agg #[.int .i64 a.y, .int .i64 a.m, .int .i64 a.d, .int .i64 a.h, .int .i64 a.i, .int .i64 a.s, .int .i64 a.n, .int .i64 a.o], _]) ∧ _) at HL
  have ql := fun w => eq_lab a.y a.m a.d a.h a.i a.s a.n a.o w
  rw [ha] at HTa
  rw [if_pos ha, if_pos ha, if_neg hb0] at HBw
  have hbb : (taE L b != 0) = true := bne_iff_ne.mpr hb0
  have EB := Lib.hid (taE_lo L b)
  clear hshort hk ha hb0 V
  generalize taV L a = va at *
  generalize taE L b = eb at *
  generalize taV L b = vb at *
  clear b0 g0 la lb he hr hA hc hm
  generalize L.length = N at *
  go_enter Tryd.func6, Tryd.ntmps6
  go_upto_region 1 with fail
  rw [← hW0]; clear hW0
  go_wp2_with fail
  refine (HAl.out _ E.out).mono ?_
  rintro e1 w1 ⟨rfl, hb⟩
  have B := Lib.hid (B.out.trans (hb.mono B.out.size))
  have E := Lib.hid (E.out.below hb)
  have X := Lib.hid ((hb.block _ (bk_lt X.out)).trans X.out)
  have R := Lib.hid ((R.out.keep hb).low)
  have Pa := Lib.hid (Pa.out.keep hb)
  have Pb := Lib.hid (Pb.out.keep hb)
  clear hb
  have cX0 := bk_cell X.out 0
  have cX1 := bk_cell X.out 1
  have cX2 := bk_cell X.out 2
  go_wp2_with fail
  refine (HLo.out _).mono ?_
  rintro e2 w2 ⟨rfl, hb⟩
  clear cX0 cX1 cX2
  have B := Lib.hid (B.out.trans (hb.mono B.out.size))
  have E := Lib.hid (E.out.below hb)
  have X := Lib.hid ((hb.block _ (bk_lt X.out)).trans X.out)
  have R := Lib.hid ((R.out.keep hb).low)
  have Pa := Lib.hid (Pa.out.keep hb)
  have Pb := Lib.hid (Pb.out.keep hb)
  clear hb
  have cX0 := bk_cell X.out 0
  have cX1 := bk_cell X.out 1
  have cX2 := bk_cell X.out 2
  go_wp2_with fail
  refine (HN.out _ E.out R.out).mono ?_
  rintro e3 w3 ⟨g, rfl, hb, ht⟩
  clear cX0 cX1 cX2
  have T := Lib.hid ht
  clear ht
  have B := Lib.hid (B.out.trans (hb.mono B.out.size))
  have E := Lib.hid (E.out.below hb)
  have X := Lib.hid ((hb.block _ (bk_lt X.out)).trans X.out)
  have R := Lib.hid ((R.out.keep hb).low)
  have Pa := Lib.hid (Pa.out.keep hb)
  have Pb := Lib.hid (Pb.out.keep hb)
  clear hb
  obtain ⟨cPa0, cPa1, cPa2, cPa3, cPa4, cPa5, cPa6, cPa7⟩ := Pa.out.all
  go_wp2_with fail
  refine (HTa.out _ _ _ E.out T.out).mono ?_
  rintro e4 w4 ⟨rfl, hb⟩
  clear cPa0 cPa1 cPa2 cPa3 cPa4 cPa5 cPa6 cPa7
  have B := Lib.hid (B.out.trans (hb.mono B.out.size))
  have E := Lib.hid (E.out.below hb)
  have X := Lib.hid ((hb.block _ (bk_lt X.out)).trans X.out)
  have R := Lib.hid ((R.out.keep hb).low)
  have Pa := Lib.hid (Pa.out.keep hb)
  have Pb := Lib.hid (Pb.out.keep hb)
  have T := Lib.hid (T.out.below hb)
  clear hb
  obtain ⟨cPb0, cPb1, cPb2, cPb3, cPb4, cPb5, cPb6, cPb7⟩ := Pb.out.all
  go_wp2_with fail
  refine (HTb.out _ _ _ E.out T.out).mono ?_
  rintro e5 w5 ⟨rfl, hb⟩
  clear cPb0 cPb1 cPb2 cPb3 cPb4 cPb5 cPb6 cPb7
  have B := Lib.hid (B.out.trans (hb.mono B.out.size))
  have E := Lib.hid (E.out.below hb)
  have X := Lib.hid ((hb.block _ (bk_lt X.out)).trans X.out)
  have R := Lib.hid ((R.out.keep hb).low)
  have Pa := Lib.hid (Pa.out.keep hb)
  have Pb := Lib.hid (Pb.out.keep hb)
  have T := Lib.hid (T.out.below hb)
  clear hb
  obtain ⟨cPa0, cPa1, cPa2, cPa3, cPa4, cPa5, cPa6, cPa7⟩ := Pa.out.all
  obtain ⟨cPb0, cPb1, cPb2, cPb3, cPb4, cPb5, cPb6, cPb7⟩ := Pb.out.all
  go_wp2_with fail
  refine (HBw.out _ _ _ E.out T.out).mono ?_
  rintro e6 w6 ⟨rfl, hb⟩
  clear cPa0 cPa1 cPa2 cPa3 cPa4 cPa5 cPa6 cPa7 cPb0 cPb1 cPb2 cPb3 cPb4 cPb5 cPb6 cPb7
  have B := Lib.hid (B.out.trans (hb.mono B.out.size))
  have E := Lib.hid (E.out.below hb)
  have X := Lib.hid ((hb.block _ (bk_lt X.out)).trans X.out)
  have R := Lib.hid ((R.out.keep hb).low)
  have Pa := Lib.hid (Pa.out.keep hb)
  have Pb := Lib.hid (Pb.out.keep hb)
  have T := Lib.hid (T.out.below hb)
  clear hb
  obtain ⟨cPa0, cPa1, cPa2, cPa3, cPa4, cPa5, cPa6, cPa7⟩ := Pa.out.all
  go_wp2_with fail
  refine (HL.out _ _ _ E.out T.out).mono ?_
  rintro e7 w7 ⟨rfl, hb⟩
  clear cPa0 cPa1 cPa2 cPa3 cPa4 cPa5 cPa6 cPa7
  have B := Lib.hid (B.out.trans (hb.mono B.out.size))
  have E := Lib.hid (E.out.below hb)
  have X := Lib.hid ((hb.block _ (bk_lt X.out)).trans X.out)
  have R := Lib.hid ((R.out.keep hb).low)
  have Pa := Lib.hid (Pa.out.keep hb)
  have Pb := Lib.hid (Pb.out.keep hb)
  have T := Lib.hid (T.out.below hb)
  clear hb
  go_upto_region 14 with fail
  obtain ⟨X7, hX⟩ : ∃ X, X = w7.alloc (.cells #[.int .i64 a.y, .int .i64 a.m, .int .i64 a.d, .int .i64 a.h, .int .i64 a.i, .int .i64 a.s, .int .i64 a.n, .int .i64 a.o] 26) := ⟨_, rfl⟩
  rw [← hX]
  have hb : Below w7.heap.size w7 X7 := by rw [hX]; exact bel_new _ _
  have Pl : Hid (Lk 26 X7 w7.heap.size a) := Lib.hid (by rw [hX]; exact lk_new _ _ a)
  have B := Lib.hid (B.out.trans (hb.mono B.out.size))
  have E := Lib.hid (E.out.below hb)
  have X := Lib.hid ((hb.block _ (bk_lt X.out)).trans X.out)
  have R := Lib.hid ((R.out.keep hb).low)
  have Pa := Lib.hid (Pa.out.keep hb)
  have Pb := Lib.hid (Pb.out.keep hb)
  have T := Lib.hid (T.out.below hb)
  clear hb
  clear hX
  obtain ⟨gPl, hg⟩ : ∃ g, g = w7.heap.size := ⟨_, rfl⟩
  rw [← hg] at Pl ⊢
  clear hg
  obtain ⟨cPa0, cPa1, cPa2, cPa3, cPa4, cPa5, cPa6, cPa7⟩ := Pa.out.all
  obtain ⟨cPl0, cPl1, cPl2, cPl3, cPl4, cPl5, cPl6, cPl7⟩ := Pl.out.all
  go_wp2_with (go_at_call 13; with_reducible refine (num_any _ _ EB.out.1 EB.out.2).mono ?_; rintro e w' ⟨rfl, rfl⟩)
  go_ret
  exact ⟨rfl, B.out⟩

set_option maxRecDepth 100000 in
set_option maxHeartbeats 4000000 in
theorem back12_c0 (A : Option Addr) (c : Nat) (L : List Rw) (u e : Int) (a b : Lb) (w : World) (he : Ends w) (hr : Rp w.heap.size w A L) (hA : A = none → c = 0 ∧ L = []) (hc : L.length ≤ c) (hm : c ≤ maxLen) (hshort : ¬ 296 < L.length) (hk : lkE L u e = 0) (ha : taE L a = 0) (hb0 : taE L b = 0) (hc3 : cmV a b = -1) (hpq : taV L a < taV L b) :
    Calls Tryd.prog 6 #[.agg #[.slice A L.length c, .int .i64 u, .int .i64 e], .agg a.cells, .agg b.cells] w fun x w' => x = .returned (.bool true) ∧ Below w.heap.size w w' := by
  obtain ⟨W0, hW0, b0, g0, la, lb⟩ := rll_box w A L.length c u e a b
  have B := Lib.hid b0
  have E := Lib.hid (he.below b0)
  have X := Lib.hid g0
  have R := Lib.hid (hr.keep b0).low
  have Pa := Lib.hid la
  have Pb := Lib.hid lb
  have HAl := Lib.hid (fun W he => alive12_any W he)
  have HLo := Lib.hid (fun W => long10_any A L.length c u e W)
  have q0 := fun op t W x k => guard_ev op t W x k
  have q1 := fun W k => eql_ev W k
  have q2 := fun W k => neq_ev W k
  rw [decide_eq_false hshort] at HLo
  have V := (lkE_zero hk).1
  have HN := Lib.hid (fun W (he : Ends W) (hr : Rp W.heap.size W A L) => new_some A c L u e W he (by omega) hr hA hc hm hk)
  have HTa := Lib.hid (fun (lo g : Nat) (W : World) (h1 : Ends W) (h2 : Tb lo W g L u e) => tai12_any a h1 h2 V)
  have HTb := Lib.hid (fun (lo g : Nat) (W : World) (h1 : Ends W) (h2 : Tb lo W g L u e) => tai12_any b h1 h2 V)
  have HBw := Lib.hid (fun (lo g : Nat) (W : World) (h1 : Ends W) (h2 : Tb lo W g L u e) => between_any a b h1 h2 V)
  unfold bwV bwE at HBw
  have HL := Lib.hid (fun (lo g : Nat) (W : World) (h1 : Ends W) (h2 : Tb lo W g L u e) => label12_any (taV L a) a.n a.o (by have := V.taV_bd a; unfold fits; omega) h1 h2 V (ml_back V ha).1)
  rw [(ml_back V ha).2] at HL
  change Hid (∀ lo g W, Ends W → _ → Calls _ _ _ W fun e w' => e = .returned (.tuple #[.agg #[.int .i64 a.y, .int .i64 a.m, .int .i64 a.d, .int .i64 a.h, .int .i64 a.i, .int .i64 a.s, .int .i64 a.n, .int .i64 a.o], _]) ∧ _) at HL
  have ql := fun w => eq_lab a.y a.m a.d a.h a.i a.s a.n a.o w
  rw [ha] at HTa
  rw [hb0] at HTb
  rw [if_pos ha, if_pos ha, if_pos hb0, hb0] at HBw
  have HC := Lib.hid (fun (W : World) (h1 : Ends W) => lcompare_any a b W h1)
  rw [cmE_ta ha hb0] at HC
  have bb := V.taV_bd b; have ba := V.taV_bd a
  rw [hc3] at HC
  clear hc3
  clear hshort hk ha hb0 V
  generalize taV L a = va at *
  generalize taV L b = vb at *
  clear b0 g0 la lb he hr hA hc hm
  generalize L.length = N at *
  go_enter Tryd.func6, Tryd.ntmps6
  go_upto_region 1 with fail
  rw [← hW0]; clear hW0
  go_wp2_with fail
  refine (HAl.out _ E.out).mono ?_
  rintro e1 w1 ⟨rfl, hb⟩
  have B := Lib.hid (B.out.trans (hb.mono B.out.size))
  have E := Lib.hid (E.out.below hb)
  have X := Lib.hid ((hb.block _ (bk_lt X.out)).trans X.out)
  have R := Lib.hid ((R.out.keep hb).low)
  have Pa := Lib.hid (Pa.out.keep hb)
  have Pb := Lib.hid (Pb.out.keep hb)
  clear hb
  have cX0 := bk_cell X.out 0
  have cX1 := bk_cell X.out 1
  have cX2 := bk_cell X.out 2
  go_wp2_with fail
  refine (HLo.out _).mono ?_
  rintro e2 w2 ⟨rfl, hb⟩
  clear cX0 cX1 cX2
  have B := Lib.hid (B.out.trans (hb.mono B.out.size))
  have E := Lib.hid (E.out.below hb)
  have X := Lib.hid ((hb.block _ (bk_lt X.out)).trans X.out)
  have R := Lib.hid ((R.out.keep hb).low)
  have Pa := Lib.hid (Pa.out.keep hb)
  have Pb := Lib.hid (Pb.out.keep hb)
  clear hb
  have cX0 := bk_cell X.out 0
  have cX1 := bk_cell X.out 1
  have cX2 := bk_cell X.out 2
  go_wp2_with fail
  refine (HN.out _ E.out R.out).mono ?_
  rintro e3 w3 ⟨g, rfl, hb, ht⟩
  clear cX0 cX1 cX2
  have T := Lib.hid ht
  clear ht
  have B := Lib.hid (B.out.trans (hb.mono B.out.size))
  have E := Lib.hid (E.out.below hb)
  have X := Lib.hid ((hb.block _ (bk_lt X.out)).trans X.out)
  have R := Lib.hid ((R.out.keep hb).low)
  have Pa := Lib.hid (Pa.out.keep hb)
  have Pb := Lib.hid (Pb.out.keep hb)
  clear hb
  obtain ⟨cPa0, cPa1, cPa2, cPa3, cPa4, cPa5, cPa6, cPa7⟩ := Pa.out.all
  go_wp2_with fail
  refine (HTa.out _ _ _ E.out T.out).mono ?_
  rintro e4 w4 ⟨rfl, hb⟩
  clear cPa0 cPa1 cPa2 cPa3 cPa4 cPa5 cPa6 cPa7
  have B := Lib.hid (B.out.trans (hb.mono B.out.size))
  have E := Lib.hid (E.out.below hb)
  have X := Lib.hid ((hb.block _ (bk_lt X.out)).trans X.out)
  have R := Lib.hid ((R.out.keep hb).low)
  have Pa := Lib.hid (Pa.out.keep hb)
  have Pb := Lib.hid (Pb.out.keep hb)
  have T := Lib.hid (T.out.below hb)
  clear hb
  obtain ⟨cPb0, cPb1, cPb2, cPb3, cPb4, cPb5, cPb6, cPb7⟩ := Pb.out.all
  go_wp2_with fail
  refine (HTb.out _ _ _ E.out T.out).mono ?_
  rintro e5 w5 ⟨rfl, hb⟩
  clear cPb0 cPb1 cPb2 cPb3 cPb4 cPb5 cPb6 cPb7
  have B := Lib.hid (B.out.trans (hb.mono B.out.size))
  have E := Lib.hid (E.out.below hb)
  have X := Lib.hid ((hb.block _ (bk_lt X.out)).trans X.out)
  have R := Lib.hid ((R.out.keep hb).low)
  have Pa := Lib.hid (Pa.out.keep hb)
  have Pb := Lib.hid (Pb.out.keep hb)
  have T := Lib.hid (T.out.below hb)
  clear hb
  obtain ⟨cPa0, cPa1, cPa2, cPa3, cPa4, cPa5, cPa6, cPa7⟩ := Pa.out.all
  obtain ⟨cPb0, cPb1, cPb2, cPb3, cPb4, cPb5, cPb6, cPb7⟩ := Pb.out.all
  go_wp2_with fail
  refine (HBw.out _ _ _ E.out T.out).mono ?_
  rintro e6 w6 ⟨rfl, hb⟩
  clear cPa0 cPa1 cPa2 cPa3 cPa4 cPa5 cPa6 cPa7 cPb0 cPb1 cPb2 cPb3 cPb4 cPb5 cPb6 cPb7
  have B := Lib.hid (B.out.trans (hb.mono B.out.size))
  have E := Lib.hid (E.out.below hb)
  have X := Lib.hid ((hb.block _ (bk_lt X.out)).trans X.out)
  have R := Lib.hid ((R.out.keep hb).low)
  have Pa := Lib.hid (Pa.out.keep hb)
  have Pb := Lib.hid (Pb.out.keep hb)
  have T := Lib.hid (T.out.below hb)
  clear hb
  obtain ⟨cPa0, cPa1, cPa2, cPa3, cPa4, cPa5, cPa6, cPa7⟩ := Pa.out.all
  go_wp2_with fail
  refine (HL.out _ _ _ E.out T.out).mono ?_
  rintro e7 w7 ⟨rfl, hb⟩
  clear cPa0 cPa1 cPa2 cPa3 cPa4 cPa5 cPa6 cPa7
  have B := Lib.hid (B.out.trans (hb.mono B.out.size))
  have E := Lib.hid (E.out.below hb)
  have X := Lib.hid ((hb.block _ (bk_lt X.out)).trans X.out)
  have R := Lib.hid ((R.out.keep hb).low)
  have Pa := Lib.hid (Pa.out.keep hb)
  have Pb := Lib.hid (Pb.out.keep hb)
  have T := Lib.hid (T.out.below hb)
  clear hb
  go_upto_region 14 with fail
  obtain ⟨X7, hX⟩ : ∃ X, X = w7.alloc (.cells #[.int .i64 a.y, .int .i64 a.m, .int .i64 a.d, .int .i64 a.h, .int .i64 a.i, .int .i64 a.s, .int .i64 a.n, .int .i64 a.o] 26) := ⟨_, rfl⟩
  rw [← hX]
  have hb : Below w7.heap.size w7 X7 := by rw [hX]; exact bel_new _ _
  have Pl : Hid (Lk 26 X7 w7.heap.size a) := Lib.hid (by rw [hX]; exact lk_new _ _ a)
  have B := Lib.hid (B.out.trans (hb.mono B.out.size))
  have E := Lib.hid (E.out.below hb)
  have X := Lib.hid ((hb.block _ (bk_lt X.out)).trans X.out)
  have R := Lib.hid ((R.out.keep hb).low)
  have Pa := Lib.hid (Pa.out.keep hb)
  have Pb := Lib.hid (Pb.out.keep hb)
  have T := Lib.hid (T.out.below hb)
  clear hb
  clear hX
  obtain ⟨gPl, hg⟩ : ∃ g, g = w7.heap.size := ⟨_, rfl⟩
  rw [← hg] at Pl ⊢
  clear hg
  obtain ⟨cPa0, cPa1, cPa2, cPa3, cPa4, cPa5, cPa6, cPa7⟩ := Pa.out.all
  obtain ⟨cPl0, cPl1, cPl2, cPl3, cPl4, cPl5, cPl6, cPl7⟩ := Pl.out.all
  go_upto_region 18 with fail
  obtain ⟨cPb0, cPb1, cPb2, cPb3, cPb4, cPb5, cPb6, cPb7⟩ := Pb.out.all
  go_wp2_with fail
  refine (HC.out _ E.out).mono ?_
  rintro e8 w8 ⟨rfl, hb⟩
  clear cPa0 cPa1 cPa2 cPa3 cPa4 cPa5 cPa6 cPa7 cPl0 cPl1 cPl2 cPl3 cPl4 cPl5 cPl6 cPl7 cPb0 cPb1 cPb2 cPb3 cPb4 cPb5 cPb6 cPb7
  have B := Lib.hid (B.out.trans (hb.mono B.out.size))
  have E := Lib.hid (E.out.below hb)
  have X := Lib.hid ((hb.block _ (bk_lt X.out)).trans X.out)
  have R := Lib.hid ((R.out.keep hb).low)
  have Pa := Lib.hid (Pa.out.keep hb)
  have Pb := Lib.hid (Pb.out.keep hb)
  have T := Lib.hid (T.out.below hb)
  have Pl := Lib.hid (Pl.out.keep hb)
  clear hb
  obtain ⟨cPa0, cPa1, cPa2, cPa3, cPa4, cPa5, cPa6, cPa7⟩ := Pa.out.all
  obtain ⟨cPb0, cPb1, cPb2, cPb3, cPb4, cPb5, cPb6, cPb7⟩ := Pb.out.all
  go_wp2_with fail
  go_ret
  exact ⟨rfl, B.out⟩

set_option maxRecDepth 100000 in
set_option maxHeartbeats 4000000 in
theorem back12_c1 (A : Option Addr) (c : Nat) (L : List Rw) (u e : Int) (a b : Lb) (w : World) (he : Ends w) (hr : Rp w.heap.size w A L) (hA : A = none → c = 0 ∧ L = []) (hc : L.length ≤ c) (hm : c ≤ maxLen) (hshort : ¬ 296 < L.length) (hk : lkE L u e = 0) (ha : taE L a = 0) (hb0 : taE L b = 0) (hc3 : cmV a b = -1) (hpq : taV L a = taV L b) (hn : a.n < b.n) :
    Calls Tryd.prog 6 #[.agg #[.slice A L.length c, .int .i64 u, .int .i64 e], .agg a.cells, .agg b.cells] w fun x w' => x = .returned (.bool true) ∧ Below w.heap.size w w' := by
  obtain ⟨W0, hW0, b0, g0, la, lb⟩ := rll_box w A L.length c u e a b
  have B := Lib.hid b0
  have E := Lib.hid (he.below b0)
  have X := Lib.hid g0
  have R := Lib.hid (hr.keep b0).low
  have Pa := Lib.hid la
  have Pb := Lib.hid lb
  have HAl := Lib.hid (fun W he => alive12_any W he)
  have HLo := Lib.hid (fun W => long10_any A L.length c u e W)
  have q0 := fun op t W x k => guard_ev op t W x k
  have q1 := fun W k => eql_ev W k
  have q2 := fun W k => neq_ev W k
  rw [decide_eq_false hshort] at HLo
  have V := (lkE_zero hk).1
  have HN := Lib.hid (fun W (he : Ends W) (hr : Rp W.heap.size W A L) => new_some A c L u e W he (by omega) hr hA hc hm hk)
  have HTa := Lib.hid (fun (lo g : Nat) (W : World) (h1 : Ends W) (h2 : Tb lo W g L u e) => tai12_any a h1 h2 V)
  have HTb := Lib.hid (fun (lo g : Nat) (W : World) (h1 : Ends W) (h2 : Tb lo W g L u e) => tai12_any b h1 h2 V)
  have HBw := Lib.hid (fun (lo g : Nat) (W : World) (h1 : Ends W) (h2 : Tb lo W g L u e) => between_any a b h1 h2 V)
  unfold bwV bwE at HBw
  have HL := Lib.hid (fun (lo g : Nat) (W : World) (h1 : Ends W) (h2 : Tb lo W g L u e) => label12_any (taV L a) a.n a.o (by have := V.taV_bd a; unfold fits; omega) h1 h2 V (ml_back V ha).1)
  rw [(ml_back V ha).2] at HL
  change Hid (∀ lo g W, Ends W → _ → Calls _ _ _ W fun e w' => e = .returned (.tuple #[.agg #[.int .i64 a.y, .int .i64 a.m, .int .i64 a.d, .int .i64 a.h, .int .i64 a.i, .int .i64 a.s, .int .i64 a.n, .int .i64 a.o], _]) ∧ _) at HL
  have ql := fun w => eq_lab a.y a.m a.d a.h a.i a.s a.n a.o w
  rw [ha] at HTa
  rw [hb0] at HTb
  rw [if_pos ha, if_pos ha, if_pos hb0, hb0] at HBw
  have HC := Lib.hid (fun (W : World) (h1 : Ends W) => lcompare_any a b W h1)
  rw [cmE_ta ha hb0] at HC
  have bb := V.taV_bd b; have ba := V.taV_bd a
  rw [hc3] at HC
  clear hc3
  rw [← hpq] at HTb HBw
  clear hpq
  clear hshort hk ha hb0 V
  generalize taV L a = va at *
  clear bb
  clear b0 g0 la lb he hr hA hc hm
  generalize L.length = N at *
  go_enter Tryd.func6, Tryd.ntmps6
  go_upto_region 1 with fail
  rw [← hW0]; clear hW0
  go_wp2_with fail
  refine (HAl.out _ E.out).mono ?_
  rintro e1 w1 ⟨rfl, hb⟩
  have B := Lib.hid (B.out.trans (hb.mono B.out.size))
  have E := Lib.hid (E.out.below hb)
  have X := Lib.hid ((hb.block _ (bk_lt X.out)).trans X.out)
  have R := Lib.hid ((R.out.keep hb).low)
  have Pa := Lib.hid (Pa.out.keep hb)
  have Pb := Lib.hid (Pb.out.keep hb)
  clear hb
  have cX0 := bk_cell X.out 0
  have cX1 := bk_cell X.out 1
  have cX2 := bk_cell X.out 2
  go_wp2_with fail
  refine (HLo.out _).mono ?_
  rintro e2 w2 ⟨rfl, hb⟩
  clear cX0 cX1 cX2
  have B := Lib.hid (B.out.trans (hb.mono B.out.size))
  have E := Lib.hid (E.out.below hb)
  have X := Lib.hid ((hb.block _ (bk_lt X.out)).trans X.out)
  have R := Lib.hid ((R.out.keep hb).low)
  have Pa := Lib.hid (Pa.out.keep hb)
  have Pb := Lib.hid (Pb.out.keep hb)
  clear hb
  have cX0 := bk_cell X.out 0
  have cX1 := bk_cell X.out 1
  have cX2 := bk_cell X.out 2
  go_wp2_with fail
  refine (HN.out _ E.out R.out).mono ?_
  rintro e3 w3 ⟨g, rfl, hb, ht⟩
  clear cX0 cX1 cX2
  have T := Lib.hid ht
  clear ht
  have B := Lib.hid (B.out.trans (hb.mono B.out.size))
  have E := Lib.hid (E.out.below hb)
  have X := Lib.hid ((hb.block _ (bk_lt X.out)).trans X.out)
  have R := Lib.hid ((R.out.keep hb).low)
  have Pa := Lib.hid (Pa.out.keep hb)
  have Pb := Lib.hid (Pb.out.keep hb)
  clear hb
  obtain ⟨cPa0, cPa1, cPa2, cPa3, cPa4, cPa5, cPa6, cPa7⟩ := Pa.out.all
  go_wp2_with fail
  refine (HTa.out _ _ _ E.out T.out).mono ?_
  rintro e4 w4 ⟨rfl, hb⟩
  clear cPa0 cPa1 cPa2 cPa3 cPa4 cPa5 cPa6 cPa7
  have B := Lib.hid (B.out.trans (hb.mono B.out.size))
  have E := Lib.hid (E.out.below hb)
  have X := Lib.hid ((hb.block _ (bk_lt X.out)).trans X.out)
  have R := Lib.hid ((R.out.keep hb).low)
  have Pa := Lib.hid (Pa.out.keep hb)
  have Pb := Lib.hid (Pb.out.keep hb)
  have T := Lib.hid (T.out.below hb)
  clear hb
  obtain ⟨cPb0, cPb1, cPb2, cPb3, cPb4, cPb5, cPb6, cPb7⟩ := Pb.out.all
  go_wp2_with fail
  refine (HTb.out _ _ _ E.out T.out).mono ?_
  rintro e5 w5 ⟨rfl, hb⟩
  clear cPb0 cPb1 cPb2 cPb3 cPb4 cPb5 cPb6 cPb7
  have B := Lib.hid (B.out.trans (hb.mono B.out.size))
  have E := Lib.hid (E.out.below hb)
  have X := Lib.hid ((hb.block _ (bk_lt X.out)).trans X.out)
  have R := Lib.hid ((R.out.keep hb).low)
  have Pa := Lib.hid (Pa.out.keep hb)
  have Pb := Lib.hid (Pb.out.keep hb)
  have T := Lib.hid (T.out.below hb)
  clear hb
  obtain ⟨cPa0, cPa1, cPa2, cPa3, cPa4, cPa5, cPa6, cPa7⟩ := Pa.out.all
  obtain ⟨cPb0, cPb1, cPb2, cPb3, cPb4, cPb5, cPb6, cPb7⟩ := Pb.out.all
  go_wp2_with fail
  refine (HBw.out _ _ _ E.out T.out).mono ?_
  rintro e6 w6 ⟨rfl, hb⟩
  clear cPa0 cPa1 cPa2 cPa3 cPa4 cPa5 cPa6 cPa7 cPb0 cPb1 cPb2 cPb3 cPb4 cPb5 cPb6 cPb7
  have B := Lib.hid (B.out.trans (hb.mono B.out.size))
  have E := Lib.hid (E.out.below hb)
  have X := Lib.hid ((hb.block _ (bk_lt X.out)).trans X.out)
  have R := Lib.hid ((R.out.keep hb).low)
  have Pa := Lib.hid (Pa.out.keep hb)
  have Pb := Lib.hid (Pb.out.keep hb)
  have T := Lib.hid (T.out.below hb)
  clear hb
  obtain ⟨cPa0, cPa1, cPa2, cPa3, cPa4, cPa5, cPa6, cPa7⟩ := Pa.out.all
  go_wp2_with fail
  refine (HL.out _ _ _ E.out T.out).mono ?_
  rintro e7 w7 ⟨rfl, hb⟩
  clear cPa0 cPa1 cPa2 cPa3 cPa4 cPa5 cPa6 cPa7
  have B := Lib.hid (B.out.trans (hb.mono B.out.size))
  have E := Lib.hid (E.out.below hb)
  have X := Lib.hid ((hb.block _ (bk_lt X.out)).trans X.out)
  have R := Lib.hid ((R.out.keep hb).low)
  have Pa := Lib.hid (Pa.out.keep hb)
  have Pb := Lib.hid (Pb.out.keep hb)
  have T := Lib.hid (T.out.below hb)
  clear hb
  go_upto_region 14 with fail
  obtain ⟨X7, hX⟩ : ∃ X, X = w7.alloc (.cells #[.int .i64 a.y, .int .i64 a.m, .int .i64 a.d, .int .i64 a.h, .int .i64 a.i, .int .i64 a.s, .int .i64 a.n, .int .i64 a.o] 26) := ⟨_, rfl⟩
  rw [← hX]
  have hb : Below w7.heap.size w7 X7 := by rw [hX]; exact bel_new _ _
  have Pl : Hid (Lk 26 X7 w7.heap.size a) := Lib.hid (by rw [hX]; exact lk_new _ _ a)
  have B := Lib.hid (B.out.trans (hb.mono B.out.size))
  have E := Lib.hid (E.out.below hb)
  have X := Lib.hid ((hb.block _ (bk_lt X.out)).trans X.out)
  have R := Lib.hid ((R.out.keep hb).low)
  have Pa := Lib.hid (Pa.out.keep hb)
  have Pb := Lib.hid (Pb.out.keep hb)
  have T := Lib.hid (T.out.below hb)
  clear hb
  clear hX
  obtain ⟨gPl, hg⟩ : ∃ g, g = w7.heap.size := ⟨_, rfl⟩
  rw [← hg] at Pl ⊢
  clear hg
  obtain ⟨cPa0, cPa1, cPa2, cPa3, cPa4, cPa5, cPa6, cPa7⟩ := Pa.out.all
  obtain ⟨cPl0, cPl1, cPl2, cPl3, cPl4, cPl5, cPl6, cPl7⟩ := Pl.out.all
  go_upto_region 18 with fail
  obtain ⟨cPb0, cPb1, cPb2, cPb3, cPb4, cPb5, cPb6, cPb7⟩ := Pb.out.all
  go_wp2_with fail
  refine (HC.out _ E.out).mono ?_
  rintro e8 w8 ⟨rfl, hb⟩
  clear cPa0 cPa1 cPa2 cPa3 cPa4 cPa5 cPa6 cPa7 cPl0 cPl1 cPl2 cPl3 cPl4 cPl5 cPl6 cPl7 cPb0 cPb1 cPb2 cPb3 cPb4 cPb5 cPb6 cPb7
  have B := Lib.hid (B.out.trans (hb.mono B.out.size))
  have E := Lib.hid (E.out.below hb)
  have X := Lib.hid ((hb.block _ (bk_lt X.out)).trans X.out)
  have R := Lib.hid ((R.out.keep hb).low)
  have Pa := Lib.hid (Pa.out.keep hb)
  have Pb := Lib.hid (Pb.out.keep hb)
  have T := Lib.hid (T.out.below hb)
  have Pl := Lib.hid (Pl.out.keep hb)
  clear hb
  obtain ⟨cPa0, cPa1, cPa2, cPa3, cPa4, cPa5, cPa6, cPa7⟩ := Pa.out.all
  obtain ⟨cPb0, cPb1, cPb2, cPb3, cPb4, cPb5, cPb6, cPb7⟩ := Pb.out.all
  go_wp2_with fail
  go_ret
  exact ⟨rfl, B.out⟩

set_option maxRecDepth 100000 in
set_option maxHeartbeats 4000000 in
theorem back12_c2 (A : Option Addr) (c : Nat) (L : List Rw) (u e : Int) (a b : Lb) (w : World) (he : Ends w) (hr : Rp w.heap.size w A L) (hA : A = none → c = 0 ∧ L = []) (hc : L.length ≤ c) (hm : c ≤ maxLen) (hshort : ¬ 296 < L.length) (hk : lkE L u e = 0) (ha : taE L a = 0) (hb0 : taE L b = 0) (hc3 : cmV a b = 0) (hpq : taV L a = taV L b) :
    Calls Tryd.prog 6 #[.agg #[.slice A L.length c, .int .i64 u, .int .i64 e], .agg a.cells, .agg b.cells] w fun x w' => x = .returned (.bool true) ∧ Below w.heap.size w w' := by
  obtain ⟨W0, hW0, b0, g0, la, lb⟩ := rll_box w A L.length c u e a b
  have B := Lib.hid b0
  have E := Lib.hid (he.below b0)
  have X := Lib.hid g0
  have R := Lib.hid (hr.keep b0).low
  have Pa := Lib.hid la
  have Pb := Lib.hid lb
  have HAl := Lib.hid (fun W he => alive12_any W he)
  have HLo := Lib.hid (fun W => long10_any A L.length c u e W)
  have q0 := fun op t W x k => guard_ev op t W x k
  have q1 := fun W k => eql_ev W k
  have q2 := fun W k => neq_ev W k
  rw [decide_eq_false hshort] at HLo
  have V := (lkE_zero hk).1
  have HN := Lib.hid (fun W (he : Ends W) (hr : Rp W.heap.size W A L) => new_some A c L u e W he (by omega) hr hA hc hm hk)
  have HTa := Lib.hid (fun (lo g : Nat) (W : World) (h1 : Ends W) (h2 : Tb lo W g L u e) => tai12_any a h1 h2 V)
  have HTb := Lib.hid (fun (lo g : Nat) (W : World) (h1 : Ends W) (h2 : Tb lo W g L u e) => tai12_any b h1 h2 V)
  have HBw := Lib.hid (fun (lo g : Nat) (W : World) (h1 : Ends W) (h2 : Tb lo W g L u e) => between_any a b h1 h2 V)
  unfold bwV bwE at HBw
  have HL := Lib.hid (fun (lo g : Nat) (W : World) (h1 : Ends W) (h2 : Tb lo W g L u e) => label12_any (taV L a) a.n a.o (by have := V.taV_bd a; unfold fits; omega) h1 h2 V (ml_back V ha).1)
  rw [(ml_back V ha).2] at HL
  change Hid (∀ lo g W, Ends W → _ → Calls _ _ _ W fun e w' => e = .returned (.tuple #[.agg #[.int .i64 a.y, .int .i64 a.m, .int .i64 a.d, .int .i64 a.h, .int .i64 a.i, .int .i64 a.s, .int .i64 a.n, .int .i64 a.o], _]) ∧ _) at HL
  have ql := fun w => eq_lab a.y a.m a.d a.h a.i a.s a.n a.o w
  rw [ha] at HTa
  rw [hb0] at HTb
  rw [if_pos ha, if_pos ha, if_pos hb0, hb0] at HBw
  have HC := Lib.hid (fun (W : World) (h1 : Ends W) => lcompare_any a b W h1)
  rw [cmE_ta ha hb0] at HC
  have bb := V.taV_bd b; have ba := V.taV_bd a
  rw [hc3] at HC
  clear hc3
  rw [← hpq] at HTb HBw
  clear hpq
  clear hshort hk ha hb0 V
  generalize taV L a = va at *
  clear bb
  clear b0 g0 la lb he hr hA hc hm
  generalize L.length = N at *
  go_enter Tryd.func6, Tryd.ntmps6
  go_upto_region 1 with fail
  rw [← hW0]; clear hW0
  go_wp2_with fail
  refine (HAl.out _ E.out).mono ?_
  rintro e1 w1 ⟨rfl, hb⟩
  have B := Lib.hid (B.out.trans (hb.mono B.out.size))
  have E := Lib.hid (E.out.below hb)
  have X := Lib.hid ((hb.block _ (bk_lt X.out)).trans X.out)
  have R := Lib.hid ((R.out.keep hb).low)
  have Pa := Lib.hid (Pa.out.keep hb)
  have Pb := Lib.hid (Pb.out.keep hb)
  clear hb
  have cX0 := bk_cell X.out 0
  have cX1 := bk_cell X.out 1
  have cX2 := bk_cell X.out 2
  go_wp2_with fail
  refine (HLo.out _).mono ?_
  rintro e2 w2 ⟨rfl, hb⟩
  clear cX0 cX1 cX2
  have B := Lib.hid (B.out.trans (hb.mono B.out.size))
  have E := Lib.hid (E.out.below hb)
  have X := Lib.hid ((hb.block _ (bk_lt X.out)).trans X.out)
  have R := Lib.hid ((R.out.keep hb).low)
  have Pa := Lib.hid (Pa.out.keep hb)
  have Pb := Lib.hid (Pb.out.keep hb)
  clear hb
  have cX0 := bk_cell X.out 0
  have cX1 := bk_cell X.out 1
  have cX2 := bk_cell X.out 2
  go_wp2_with fail
  refine (HN.out _ E.out R.out).mono ?_
  rintro e3 w3 ⟨g, rfl, hb, ht⟩
  clear cX0 cX1 cX2
  have T := Lib.hid ht
  clear ht
  have B := Lib.hid (B.out.trans (hb.mono B.out.size))
  have E := Lib.hid (E.out.below hb)
  have X := Lib.hid ((hb.block _ (bk_lt X.out)).trans X.out)
  have R := Lib.hid ((R.out.keep hb).low)
  have Pa := Lib.hid (Pa.out.keep hb)
  have Pb := Lib.hid (Pb.out.keep hb)
  clear hb
  obtain ⟨cPa0, cPa1, cPa2, cPa3, cPa4, cPa5, cPa6, cPa7⟩ := Pa.out.all
  go_wp2_with fail
  refine (HTa.out _ _ _ E.out T.out).mono ?_
  rintro e4 w4 ⟨rfl, hb⟩
  clear cPa0 cPa1 cPa2 cPa3 cPa4 cPa5 cPa6 cPa7
  have B := Lib.hid (B.out.trans (hb.mono B.out.size))
  have E := Lib.hid (E.out.below hb)
  have X := Lib.hid ((hb.block _ (bk_lt X.out)).trans X.out)
  have R := Lib.hid ((R.out.keep hb).low)
  have Pa := Lib.hid (Pa.out.keep hb)
  have Pb := Lib.hid (Pb.out.keep hb)
  have T := Lib.hid (T.out.below hb)
  clear hb
  obtain ⟨cPb0, cPb1, cPb2, cPb3, cPb4, cPb5, cPb6, cPb7⟩ := Pb.out.all
  go_wp2_with fail
  refine (HTb.out _ _ _ E.out T.out).mono ?_
  rintro e5 w5 ⟨rfl, hb⟩
  clear cPb0 cPb1 cPb2 cPb3 cPb4 cPb5 cPb6 cPb7
  have B := Lib.hid (B.out.trans (hb.mono B.out.size))
  have E := Lib.hid (E.out.below hb)
  have X := Lib.hid ((hb.block _ (bk_lt X.out)).trans X.out)
  have R := Lib.hid ((R.out.keep hb).low)
  have Pa := Lib.hid (Pa.out.keep hb)
  have Pb := Lib.hid (Pb.out.keep hb)
  have T := Lib.hid (T.out.below hb)
  clear hb
  obtain ⟨cPa0, cPa1, cPa2, cPa3, cPa4, cPa5, cPa6, cPa7⟩ := Pa.out.all
  obtain ⟨cPb0, cPb1, cPb2, cPb3, cPb4, cPb5, cPb6, cPb7⟩ := Pb.out.all
  go_wp2_with fail
  refine (HBw.out _ _ _ E.out T.out).mono ?_
  rintro e6 w6 ⟨rfl, hb⟩
  clear cPa0 cPa1 cPa2 cPa3 cPa4 cPa5 cPa6 cPa7 cPb0 cPb1 cPb2 cPb3 cPb4 cPb5 cPb6 cPb7
  have B := Lib.hid (B.out.trans (hb.mono B.out.size))
  have E := Lib.hid (E.out.below hb)
  have X := Lib.hid ((hb.block _ (bk_lt X.out)).trans X.out)
  have R := Lib.hid ((R.out.keep hb).low)
  have Pa := Lib.hid (Pa.out.keep hb)
  have Pb := Lib.hid (Pb.out.keep hb)
  have T := Lib.hid (T.out.below hb)
  clear hb
  obtain ⟨cPa0, cPa1, cPa2, cPa3, cPa4, cPa5, cPa6, cPa7⟩ := Pa.out.all
  go_wp2_with fail
  refine (HL.out _ _ _ E.out T.out).mono ?_
  rintro e7 w7 ⟨rfl, hb⟩
  clear cPa0 cPa1 cPa2 cPa3 cPa4 cPa5 cPa6 cPa7
  have B := Lib.hid (B.out.trans (hb.mono B.out.size))
  have E := Lib.hid (E.out.below hb)
  have X := Lib.hid ((hb.block _ (bk_lt X.out)).trans X.out)
  have R := Lib.hid ((R.out.keep hb).low)
  have Pa := Lib.hid (Pa.out.keep hb)
  have Pb := Lib.hid (Pb.out.keep hb)
  have T := Lib.hid (T.out.below hb)
  clear hb
  go_upto_region 14 with fail
  obtain ⟨X7, hX⟩ : ∃ X, X = w7.alloc (.cells #[.int .i64 a.y, .int .i64 a.m, .int .i64 a.d, .int .i64 a.h, .int .i64 a.i, .int .i64 a.s, .int .i64 a.n, .int .i64 a.o] 26) := ⟨_, rfl⟩
  rw [← hX]
  have hb : Below w7.heap.size w7 X7 := by rw [hX]; exact bel_new _ _
  have Pl : Hid (Lk 26 X7 w7.heap.size a) := Lib.hid (by rw [hX]; exact lk_new _ _ a)
  have B := Lib.hid (B.out.trans (hb.mono B.out.size))
  have E := Lib.hid (E.out.below hb)
  have X := Lib.hid ((hb.block _ (bk_lt X.out)).trans X.out)
  have R := Lib.hid ((R.out.keep hb).low)
  have Pa := Lib.hid (Pa.out.keep hb)
  have Pb := Lib.hid (Pb.out.keep hb)
  have T := Lib.hid (T.out.below hb)
  clear hb
  clear hX
  obtain ⟨gPl, hg⟩ : ∃ g, g = w7.heap.size := ⟨_, rfl⟩
  rw [← hg] at Pl ⊢
  clear hg
  obtain ⟨cPa0, cPa1, cPa2, cPa3, cPa4, cPa5, cPa6, cPa7⟩ := Pa.out.all
  obtain ⟨cPl0, cPl1, cPl2, cPl3, cPl4, cPl5, cPl6, cPl7⟩ := Pl.out.all
  go_upto_region 18 with fail
  obtain ⟨cPb0, cPb1, cPb2, cPb3, cPb4, cPb5, cPb6, cPb7⟩ := Pb.out.all
  go_wp2_with fail
  refine (HC.out _ E.out).mono ?_
  rintro e8 w8 ⟨rfl, hb⟩
  clear cPa0 cPa1 cPa2 cPa3 cPa4 cPa5 cPa6 cPa7 cPl0 cPl1 cPl2 cPl3 cPl4 cPl5 cPl6 cPl7 cPb0 cPb1 cPb2 cPb3 cPb4 cPb5 cPb6 cPb7
  have B := Lib.hid (B.out.trans (hb.mono B.out.size))
  have E := Lib.hid (E.out.below hb)
  have X := Lib.hid ((hb.block _ (bk_lt X.out)).trans X.out)
  have R := Lib.hid ((R.out.keep hb).low)
  have Pa := Lib.hid (Pa.out.keep hb)
  have Pb := Lib.hid (Pb.out.keep hb)
  have T := Lib.hid (T.out.below hb)
  have Pl := Lib.hid (Pl.out.keep hb)
  clear hb
  obtain ⟨cPa0, cPa1, cPa2, cPa3, cPa4, cPa5, cPa6, cPa7⟩ := Pa.out.all
  obtain ⟨cPb0, cPb1, cPb2, cPb3, cPb4, cPb5, cPb6, cPb7⟩ := Pb.out.all
  go_wp2_with fail
  go_ret
  exact ⟨rfl, B.out⟩

set_option maxRecDepth 100000 in
set_option maxHeartbeats 4000000 in
theorem back12_c3 (A : Option Addr) (c : Nat) (L : List Rw) (u e : Int) (a b : Lb) (w : World) (he : Ends w) (hr : Rp w.heap.size w A L) (hA : A = none → c = 0 ∧ L = []) (hc : L.length ≤ c) (hm : c ≤ maxLen) (hshort : ¬ 296 < L.length) (hk : lkE L u e = 0) (ha : taE L a = 0) (hb0 : taE L b = 0) (hc3 : cmV a b = 1) (hpq : taV L b < taV L a) :
    Calls Tryd.prog 6 #[.agg #[.slice A L.length c, .int .i64 u, .int .i64 e], .agg a.cells, .agg b.cells] w fun x w' => x = .returned (.bool true) ∧ Below w.heap.size w w' := by
  obtain ⟨W0, hW0, b0, g0, la, lb⟩ := rll_box w A L.length c u e a b
  have B := Lib.hid b0
  have E := Lib.hid (he.below b0)
  have X := Lib.hid g0
  have R := Lib.hid (hr.keep b0).low
  have Pa := Lib.hid la
  have Pb := Lib.hid lb
  have HAl := Lib.hid (fun W he => alive12_any W he)
  have HLo := Lib.hid (fun W => long10_any A L.length c u e W)
  have q0 := fun op t W x k => guard_ev op t W x k
  have q1 := fun W k => eql_ev W k
  have q2 := fun W k => neq_ev W k
  rw [decide_eq_false hshort] at HLo
  have V := (lkE_zero hk).1
  have HN := Lib.hid (fun W (he : Ends W) (hr : Rp W.heap.size W A L) => new_some A c L u e W he (by omega) hr hA hc hm hk)
  have HTa := Lib.hid (fun (lo g : Nat) (W : World) (h1 : Ends W) (h2 : Tb lo W g L u e) => tai12_any a h1 h2 V)
  have HTb := Lib.hid (fun (lo g : Nat) (W : World) (h1 : Ends W) (h2 : Tb lo W g L u e) => tai12_any b h1 h2 V)
  have HBw := Lib.hid (fun (lo g : Nat) (W : World) (h1 : Ends W) (h2 : Tb lo W g L u e) => between_any a b h1 h2 V)
  unfold bwV bwE at HBw
  have HL := Lib.hid (fun (lo g : Nat) (W : World) (h1 : Ends W) (h2 : Tb lo W g L u e) => label12_any (taV L a) a.n a.o (by have := V.taV_bd a; unfold fits; omega) h1 h2 V (ml_back V ha).1)
  rw [(ml_back V ha).2] at HL
  change Hid (∀ lo g W, Ends W → _ → Calls _ _ _ W fun e w' => e = .returned (.tuple #[.agg #[.int .i64 a.y, .int .i64 a.m, .int .i64 a.d, .int .i64 a.h, .int .i64 a.i, .int .i64 a.s, .int .i64 a.n, .int .i64 a.o], _]) ∧ _) at HL
  have ql := fun w => eq_lab a.y a.m a.d a.h a.i a.s a.n a.o w
  rw [ha] at HTa
  rw [hb0] at HTb
  rw [if_pos ha, if_pos ha, if_pos hb0, hb0] at HBw
  have HC := Lib.hid (fun (W : World) (h1 : Ends W) => lcompare_any a b W h1)
  rw [cmE_ta ha hb0] at HC
  have bb := V.taV_bd b; have ba := V.taV_bd a
  rw [hc3] at HC
  clear hc3
  clear hshort hk ha hb0 V
  generalize taV L a = va at *
  generalize taV L b = vb at *
  clear b0 g0 la lb he hr hA hc hm
  generalize L.length = N at *
  go_enter Tryd.func6, Tryd.ntmps6
  go_upto_region 1 with fail
  rw [← hW0]; clear hW0
  go_wp2_with fail
  refine (HAl.out _ E.out).mono ?_
  rintro e1 w1 ⟨rfl, hb⟩
  have B := Lib.hid (B.out.trans (hb.mono B.out.size))
  have E := Lib.hid (E.out.below hb)
  have X := Lib.hid ((hb.block _ (bk_lt X.out)).trans X.out)
  have R := Lib.hid ((R.out.keep hb).low)
  have Pa := Lib.hid (Pa.out.keep hb)
  have Pb := Lib.hid (Pb.out.keep hb)
  clear hb
  have cX0 := bk_cell X.out 0
  have cX1 := bk_cell X.out 1
  have cX2 := bk_cell X.out 2
  go_wp2_with fail
  refine (HLo.out _).mono ?_
  rintro e2 w2 ⟨rfl, hb⟩
  clear cX0 cX1 cX2
  have B := Lib.hid (B.out.trans (hb.mono B.out.size))
  have E := Lib.hid (E.out.below hb)
  have X := Lib.hid ((hb.block _ (bk_lt X.out)).trans X.out)
  have R := Lib.hid ((R.out.keep hb).low)
  have Pa := Lib.hid (Pa.out.keep hb)
  have Pb := Lib.hid (Pb.out.keep hb)
  clear hb
  have cX0 := bk_cell X.out 0
  have cX1 := bk_cell X.out 1
  have cX2 := bk_cell X.out 2
  go_wp2_with fail
  refine (HN.out _ E.out R.out).mono ?_
  rintro e3 w3 ⟨g, rfl, hb, ht⟩
  clear cX0 cX1 cX2
  have T := Lib.hid ht
  clear ht
  have B := Lib.hid (B.out.trans (hb.mono B.out.size))
  have E := Lib.hid (E.out.below hb)
  have X := Lib.hid ((hb.block _ (bk_lt X.out)).trans X.out)
  have R := Lib.hid ((R.out.keep hb).low)
  have Pa := Lib.hid (Pa.out.keep hb)
  have Pb := Lib.hid (Pb.out.keep hb)
  clear hb
  obtain ⟨cPa0, cPa1, cPa2, cPa3, cPa4, cPa5, cPa6, cPa7⟩ := Pa.out.all
  go_wp2_with fail
  refine (HTa.out _ _ _ E.out T.out).mono ?_
  rintro e4 w4 ⟨rfl, hb⟩
  clear cPa0 cPa1 cPa2 cPa3 cPa4 cPa5 cPa6 cPa7
  have B := Lib.hid (B.out.trans (hb.mono B.out.size))
  have E := Lib.hid (E.out.below hb)
  have X := Lib.hid ((hb.block _ (bk_lt X.out)).trans X.out)
  have R := Lib.hid ((R.out.keep hb).low)
  have Pa := Lib.hid (Pa.out.keep hb)
  have Pb := Lib.hid (Pb.out.keep hb)
  have T := Lib.hid (T.out.below hb)
  clear hb
  obtain ⟨cPb0, cPb1, cPb2, cPb3, cPb4, cPb5, cPb6, cPb7⟩ := Pb.out.all
  go_wp2_with fail
  refine (HTb.out _ _ _ E.out T.out).mono ?_
  rintro e5 w5 ⟨rfl, hb⟩
  clear cPb0 cPb1 cPb2 cPb3 cPb4 cPb5 cPb6 cPb7
  have B := Lib.hid (B.out.trans (hb.mono B.out.size))
  have E := Lib.hid (E.out.below hb)
  have X := Lib.hid ((hb.block _ (bk_lt X.out)).trans X.out)
  have R := Lib.hid ((R.out.keep hb).low)
  have Pa := Lib.hid (Pa.out.keep hb)
  have Pb := Lib.hid (Pb.out.keep hb)
  have T := Lib.hid (T.out.below hb)
  clear hb
  obtain ⟨cPa0, cPa1, cPa2, cPa3, cPa4, cPa5, cPa6, cPa7⟩ := Pa.out.all
  obtain ⟨cPb0, cPb1, cPb2, cPb3, cPb4, cPb5, cPb6, cPb7⟩ := Pb.out.all
  go_wp2_with fail
  refine (HBw.out _ _ _ E.out T.out).mono ?_
  rintro e6 w6 ⟨rfl, hb⟩
  clear cPa0 cPa1 cPa2 cPa3 cPa4 cPa5 cPa6 cPa7 cPb0 cPb1 cPb2 cPb3 cPb4 cPb5 cPb6 cPb7
  have B := Lib.hid (B.out.trans (hb.mono B.out.size))
  have E := Lib.hid (E.out.below hb)
  have X := Lib.hid ((hb.block _ (bk_lt X.out)).trans X.out)
  have R := Lib.hid ((R.out.keep hb).low)
  have Pa := Lib.hid (Pa.out.keep hb)
  have Pb := Lib.hid (Pb.out.keep hb)
  have T := Lib.hid (T.out.below hb)
  clear hb
  obtain ⟨cPa0, cPa1, cPa2, cPa3, cPa4, cPa5, cPa6, cPa7⟩ := Pa.out.all
  go_wp2_with fail
  refine (HL.out _ _ _ E.out T.out).mono ?_
  rintro e7 w7 ⟨rfl, hb⟩
  clear cPa0 cPa1 cPa2 cPa3 cPa4 cPa5 cPa6 cPa7
  have B := Lib.hid (B.out.trans (hb.mono B.out.size))
  have E := Lib.hid (E.out.below hb)
  have X := Lib.hid ((hb.block _ (bk_lt X.out)).trans X.out)
  have R := Lib.hid ((R.out.keep hb).low)
  have Pa := Lib.hid (Pa.out.keep hb)
  have Pb := Lib.hid (Pb.out.keep hb)
  have T := Lib.hid (T.out.below hb)
  clear hb
  go_upto_region 14 with fail
  obtain ⟨X7, hX⟩ : ∃ X, X = w7.alloc (.cells #[.int .i64 a.y, .int .i64 a.m, .int .i64 a.d, .int .i64 a.h, .int .i64 a.i, .int .i64 a.s, .int .i64 a.n, .int .i64 a.o] 26) := ⟨_, rfl⟩
  rw [← hX]
  have hb : Below w7.heap.size w7 X7 := by rw [hX]; exact bel_new _ _
  have Pl : Hid (Lk 26 X7 w7.heap.size a) := Lib.hid (by rw [hX]; exact lk_new _ _ a)
  have B := Lib.hid (B.out.trans (hb.mono B.out.size))
  have E := Lib.hid (E.out.below hb)
  have X := Lib.hid ((hb.block _ (bk_lt X.out)).trans X.out)
  have R := Lib.hid ((R.out.keep hb).low)
  have Pa := Lib.hid (Pa.out.keep hb)
  have Pb := Lib.hid (Pb.out.keep hb)
  have T := Lib.hid (T.out.below hb)
  clear hb
  clear hX
  obtain ⟨gPl, hg⟩ : ∃ g, g = w7.heap.size := ⟨_, rfl⟩
  rw [← hg] at Pl ⊢
  clear hg
  obtain ⟨cPa0, cPa1, cPa2, cPa3, cPa4, cPa5, cPa6, cPa7⟩ := Pa.out.all
  obtain ⟨cPl0, cPl1, cPl2, cPl3, cPl4, cPl5, cPl6, cPl7⟩ := Pl.out.all
  go_upto_region 18 with fail
  obtain ⟨cPb0, cPb1, cPb2, cPb3, cPb4, cPb5, cPb6, cPb7⟩ := Pb.out.all
  go_wp2_with fail
  refine (HC.out _ E.out).mono ?_
  rintro e8 w8 ⟨rfl, hb⟩
  clear cPa0 cPa1 cPa2 cPa3 cPa4 cPa5 cPa6 cPa7 cPl0 cPl1 cPl2 cPl3 cPl4 cPl5 cPl6 cPl7 cPb0 cPb1 cPb2 cPb3 cPb4 cPb5 cPb6 cPb7
  have B := Lib.hid (B.out.trans (hb.mono B.out.size))
  have E := Lib.hid (E.out.below hb)
  have X := Lib.hid ((hb.block _ (bk_lt X.out)).trans X.out)
  have R := Lib.hid ((R.out.keep hb).low)
  have Pa := Lib.hid (Pa.out.keep hb)
  have Pb := Lib.hid (Pb.out.keep hb)
  have T := Lib.hid (T.out.below hb)
  have Pl := Lib.hid (Pl.out.keep hb)
  clear hb
  obtain ⟨cPa0, cPa1, cPa2, cPa3, cPa4, cPa5, cPa6, cPa7⟩ := Pa.out.all
  obtain ⟨cPb0, cPb1, cPb2, cPb3, cPb4, cPb5, cPb6, cPb7⟩ := Pb.out.all
  go_wp2_with fail
  go_ret
  exact ⟨rfl, B.out⟩

set_option maxRecDepth 100000 in
set_option maxHeartbeats 4000000 in
theorem back12_c4 (A : Option Addr) (c : Nat) (L : List Rw) (u e : Int) (a b : Lb) (w : World) (he : Ends w) (hr : Rp w.heap.size w A L) (hA : A = none → c = 0 ∧ L = []) (hc : L.length ≤ c) (hm : c ≤ maxLen) (hshort : ¬ 296 < L.length) (hk : lkE L u e = 0) (ha : taE L a = 0) (hb0 : taE L b = 0) (hc3 : cmV a b = 1) (hpq : taV L a = taV L b) (hn : b.n < a.n) :
    Calls Tryd.prog 6 #[.agg #[.slice A L.length c, .int .i64 u, .int .i64 e], .agg a.cells, .agg b.cells] w fun x w' => x = .returned (.bool true) ∧ Below w.heap.size w w' := by
  obtain ⟨W0, hW0, b0, g0, la, lb⟩ := rll_box w A L.length c u e a b
  have B := Lib.hid b0
  have E := Lib.hid (he.below b0)
  have X := Lib.hid g0
  have R := Lib.hid (hr.keep b0).low
  have Pa := Lib.hid la
  have Pb := Lib.hid lb
  have HAl := Lib.hid (fun W he => alive12_any W he)
  have HLo := Lib.hid (fun W => long10_any A L.length c u e W)
  have q0 := fun op t W x k => guard_ev op t W x k
  have q1 := fun W k => eql_ev W k
  have q2 := fun W k => neq_ev W k
  rw [decide_eq_false hshort] at HLo
  have V := (lkE_zero hk).1
  have HN := Lib.hid (fun W (he : Ends W) (hr : Rp W.heap.size W A L) => new_some A c L u e W he (by omega) hr hA hc hm hk)
  have HTa := Lib.hid (fun (lo g : Nat) (W : World) (h1 : Ends W) (h2 : Tb lo W g L u e) => tai12_any a h1 h2 V)
  have HTb := Lib.hid (fun (lo g : Nat) (W : World) (h1 : Ends W) (h2 : Tb lo W g L u e) => tai12_any b h1 h2 V)
  have HBw := Lib.hid (fun (lo g : Nat) (W : World) (h1 : Ends W) (h2 : Tb lo W g L u e) => between_any a b h1 h2 V)
  unfold bwV bwE at HBw
  have HL := Lib.hid (fun (lo g : Nat) (W : World) (h1 : Ends W) (h2 : Tb lo W g L u e) => label12_any (taV L a) a.n a.o (by have := V.taV_bd a; unfold fits; omega) h1 h2 V (ml_back V ha).1)
  rw [(ml_back V ha).2] at HL
  change Hid (∀ lo g W, Ends W → _ → Calls _ _ _ W fun e w' => e = .returned (.tuple #[.agg #[.int .i64 a.y, .int .i64 a.m, .int .i64 a.d, .int .i64 a.h, .int .i64 a.i, .int .i64 a.s, .int .i64 a.n, .int .i64 a.o], _]) ∧ _) at HL
  have ql := fun w => eq_lab a.y a.m a.d a.h a.i a.s a.n a.o w
  rw [ha] at HTa
  rw [hb0] at HTb
  rw [if_pos ha, if_pos ha, if_pos hb0, hb0] at HBw
  have HC := Lib.hid (fun (W : World) (h1 : Ends W) => lcompare_any a b W h1)
  rw [cmE_ta ha hb0] at HC
  have bb := V.taV_bd b; have ba := V.taV_bd a
  rw [hc3] at HC
  clear hc3
  rw [← hpq] at HTb HBw
  clear hpq
  clear hshort hk ha hb0 V
  generalize taV L a = va at *
  clear bb
  clear b0 g0 la lb he hr hA hc hm
  generalize L.length = N at *
  go_enter Tryd.func6, Tryd.ntmps6
  go_upto_region 1 with fail
  rw [← hW0]; clear hW0
  go_wp2_with fail
  refine (HAl.out _ E.out).mono ?_
  rintro e1 w1 ⟨rfl, hb⟩
  have B := Lib.hid (B.out.trans (hb.mono B.out.size))
  have E := Lib.hid (E.out.below hb)
  have X := Lib.hid ((hb.block _ (bk_lt X.out)).trans X.out)
  have R := Lib.hid ((R.out.keep hb).low)
  have Pa := Lib.hid (Pa.out.keep hb)
  have Pb := Lib.hid (Pb.out.keep hb)
  clear hb
  have cX0 := bk_cell X.out 0
  have cX1 := bk_cell X.out 1
  have cX2 := bk_cell X.out 2
  go_wp2_with fail
  refine (HLo.out _).mono ?_
  rintro e2 w2 ⟨rfl, hb⟩
  clear cX0 cX1 cX2
  have B := Lib.hid (B.out.trans (hb.mono B.out.size))
  have E := Lib.hid (E.out.below hb)
  have X := Lib.hid ((hb.block _ (bk_lt X.out)).trans X.out)
  have R := Lib.hid ((R.out.keep hb).low)
  have Pa := Lib.hid (Pa.out.keep hb)
  have Pb := Lib.hid (Pb.out.keep hb)
  clear hb
  have cX0 := bk_cell X.out 0
  have cX1 := bk_cell X.out 1
  have cX2 := bk_cell X.out 2
  go_wp2_with fail
  refine (HN.out _ E.out R.out).mono ?_
  rintro e3 w3 ⟨g, rfl, hb, ht⟩
  clear cX0 cX1 cX2
  have T := Lib.hid ht
  clear ht
  have B := Lib.hid (B.out.trans (hb.mono B.out.size))
  have E := Lib.hid (E.out.below hb)
  have X := Lib.hid ((hb.block _ (bk_lt X.out)).trans X.out)
  have R := Lib.hid ((R.out.keep hb).low)
  have Pa := Lib.hid (Pa.out.keep hb)
  have Pb := Lib.hid (Pb.out.keep hb)
  clear hb
  obtain ⟨cPa0, cPa1, cPa2, cPa3, cPa4, cPa5, cPa6, cPa7⟩ := Pa.out.all
  go_wp2_with fail
  refine (HTa.out _ _ _ E.out T.out).mono ?_
  rintro e4 w4 ⟨rfl, hb⟩
  clear cPa0 cPa1 cPa2 cPa3 cPa4 cPa5 cPa6 cPa7
  have B := Lib.hid (B.out.trans (hb.mono B.out.size))
  have E := Lib.hid (E.out.below hb)
  have X := Lib.hid ((hb.block _ (bk_lt X.out)).trans X.out)
  have R := Lib.hid ((R.out.keep hb).low)
  have Pa := Lib.hid (Pa.out.keep hb)
  have Pb := Lib.hid (Pb.out.keep hb)
  have T := Lib.hid (T.out.below hb)
  clear hb
  obtain ⟨cPb0, cPb1, cPb2, cPb3, cPb4, cPb5, cPb6, cPb7⟩ := Pb.out.all
  go_wp2_with fail
  refine (HTb.out _ _ _ E.out T.out).mono ?_
  rintro e5 w5 ⟨rfl, hb⟩
  clear cPb0 cPb1 cPb2 cPb3 cPb4 cPb5 cPb6 cPb7
  have B := Lib.hid (B.out.trans (hb.mono B.out.size))
  have E := Lib.hid (E.out.below hb)
  have X := Lib.hid ((hb.block _ (bk_lt X.out)).trans X.out)
  have R := Lib.hid ((R.out.keep hb).low)
  have Pa := Lib.hid (Pa.out.keep hb)
  have Pb := Lib.hid (Pb.out.keep hb)
  have T := Lib.hid (T.out.below hb)
  clear hb
  obtain ⟨cPa0, cPa1, cPa2, cPa3, cPa4, cPa5, cPa6, cPa7⟩ := Pa.out.all
  obtain ⟨cPb0, cPb1, cPb2, cPb3, cPb4, cPb5, cPb6, cPb7⟩ := Pb.out.all
  go_wp2_with fail
  refine (HBw.out _ _ _ E.out T.out).mono ?_
  rintro e6 w6 ⟨rfl, hb⟩
  clear cPa0 cPa1 cPa2 cPa3 cPa4 cPa5 cPa6 cPa7 cPb0 cPb1 cPb2 cPb3 cPb4 cPb5 cPb6 cPb7
  have B := Lib.hid (B.out.trans (hb.mono B.out.size))
  have E := Lib.hid (E.out.below hb)
  have X := Lib.hid ((hb.block _ (bk_lt X.out)).trans X.out)
  have R := Lib.hid ((R.out.keep hb).low)
  have Pa := Lib.hid (Pa.out.keep hb)
  have Pb := Lib.hid (Pb.out.keep hb)
  have T := Lib.hid (T.out.below hb)
  clear hb
  obtain ⟨cPa0, cPa1, cPa2, cPa3, cPa4, cPa5, cPa6, cPa7⟩ := Pa.out.all
  go_wp2_with fail
  refine (HL.out _ _ _ E.out T.out).mono ?_
  rintro e7 w7 ⟨rfl, hb⟩
  clear cPa0 cPa1 cPa2 cPa3 cPa4 cPa5 cPa6 cPa7
  have B := Lib.hid (B.out.trans (hb.mono B.out.size))
  have E := Lib.hid (E.out.below hb)
  have X := Lib.hid ((hb.block _ (bk_lt X.out)).trans X.out)
  have R := Lib.hid ((R.out.keep hb).low)
  have Pa := Lib.hid (Pa.out.keep hb)
  have Pb := Lib.hid (Pb.out.keep hb)
  have T := Lib.hid (T.out.below hb)
  clear hb
  go_upto_region 14 with fail
  obtain ⟨X7, hX⟩ : ∃ X, X = w7.alloc (.cells #[.int .i64 a.y, .int .i64 a.m, .int .i64 a.d, .int .i64 a.h, .int .i64 a.i, .int .i64 a.s, .int .i64 a.n, .int .i64 a.o] 26) := ⟨_, rfl⟩
  rw [← hX]
  have hb : Below w7.heap.size w7 X7 := by rw [hX]; exact bel_new _ _
  have Pl : Hid (Lk 26 X7 w7.heap.size a) := Lib.hid (by rw [hX]; exact lk_new _ _ a)
  have B := Lib.hid (B.out.trans (hb.mono B.out.size))
  have E := Lib.hid (E.out.below hb)
  have X := Lib.hid ((hb.block _ (bk_lt X.out)).trans X.out)
  have R := Lib.hid ((R.out.keep hb).low)
  have Pa := Lib.hid (Pa.out.keep hb)
  have Pb := Lib.hid (Pb.out.keep hb)
  have T := Lib.hid (T.out.below hb)
  clear hb
  clear hX
  obtain ⟨gPl, hg⟩ : ∃ g, g = w7.heap.size := ⟨_, rfl⟩
  rw [← hg] at Pl ⊢
  clear hg
  obtain ⟨cPa0, cPa1, cPa2, cPa3, cPa4, cPa5, cPa6, cPa7⟩ := Pa.out.all
  obtain ⟨cPl0, cPl1, cPl2, cPl3, cPl4, cPl5, cPl6, cPl7⟩ := Pl.out.all
  go_upto_region 18 with fail
  obtain ⟨cPb0, cPb1, cPb2, cPb3, cPb4, cPb5, cPb6, cPb7⟩ := Pb.out.all
  go_wp2_with fail
  refine (HC.out _ E.out).mono ?_
  rintro e8 w8 ⟨rfl, hb⟩
  clear cPa0 cPa1 cPa2 cPa3 cPa4 cPa5 cPa6 cPa7 cPl0 cPl1 cPl2 cPl3 cPl4 cPl5 cPl6 cPl7 cPb0 cPb1 cPb2 cPb3 cPb4 cPb5 cPb6 cPb7
  have B := Lib.hid (B.out.trans (hb.mono B.out.size))
  have E := Lib.hid (E.out.below hb)
  have X := Lib.hid ((hb.block _ (bk_lt X.out)).trans X.out)
  have R := Lib.hid ((R.out.keep hb).low)
  have Pa := Lib.hid (Pa.out.keep hb)
  have Pb := Lib.hid (Pb.out.keep hb)
  have T := Lib.hid (T.out.below hb)
  have Pl := Lib.hid (Pl.out.keep hb)
  clear hb
  obtain ⟨cPa0, cPa1, cPa2, cPa3, cPa4, cPa5, cPa6, cPa7⟩ := Pa.out.all
  obtain ⟨cPb0, cPb1, cPb2, cPb3, cPb4, cPb5, cPb6, cPb7⟩ := Pb.out.all
  go_wp2_with fail
  go_ret
  exact ⟨rfl, B.out⟩

theorem back12_walk (A : Option Addr) (c : Nat) (L : List Rw) (u e : Int) (a b : Lb) (w : World) (he : Ends w) (hr : Rp w.heap.size w A L) (hA : A = none → c = 0 ∧ L = []) (hc : L.length ≤ c) (hm : c ≤ maxLen) :
    Calls Tryd.prog 6 #[.agg #[.slice A L.length c, .int .i64 u, .int .i64 e], .agg a.cells, .agg b.cells] w fun x w' => x = .returned (.bool true) ∧ Below w.heap.size w w' := by
  by_cases hl : 296 < L.length
  · exact back12_long A c L u e a b w he hr hA hc hm hl
  by_cases hk : lkE L u e = 0
  rotate_left
  · exact back12_new A c L u e a b w he hr hA hc hm hl hk
  by_cases ha : taE L a = 0
  rotate_left
  · exact back12_a A c L u e a b w he hr hA hc hm hl hk ha
  by_cases hb : taE L b = 0
  rotate_left
  · exact back12_b A c L u e a b w he hr hA hc hm hl hk ha hb
  rcases cmp_ta (lkE_zero hk).1 ha hb with ⟨h1, h2⟩ | ⟨h1, h2, h3⟩ | ⟨h1, h2⟩ | ⟨h1, h2⟩ | ⟨h1, h2, h3⟩
  · exact back12_c0 A c L u e a b w he hr hA hc hm hl hk ha hb h1 h2
  · exact back12_c1 A c L u e a b w he hr hA hc hm hl hk ha hb h1 h2 h3
  · exact back12_c2 A c L u e a b w he hr hA hc hm hl hk ha hb h1 h2
  · exact back12_c3 A c L u e a b w he hr hA hc hm hl hk ha hb h1 h2
  · exact back12_c4 A c L u e a b w he hr hA hc hm hl hk ha hb h1 h2 h3

end Go.Proofs.YtiamggjebaabkaaDoor
