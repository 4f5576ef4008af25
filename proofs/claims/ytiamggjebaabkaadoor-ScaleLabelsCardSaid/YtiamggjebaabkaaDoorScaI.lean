/- ScaleLabels. Written by gen_scl.py. -/
import Derived.Test.YtiamggjebaabkaaDoorScaF
import Derived.Test.YtiamggjebaabkaaDoorScaE
import Derived.Test.YtiamggjebaabkaaDoorLabH
namespace Go.Proofs.YtiamggjebaabkaaDoor
open Go.RowKit
set_option linter.unusedVariables false
set_option linter.unusedSimpArgs false

set_option maxRecDepth 100000 in
set_option maxHeartbeats 4000000 in
theorem labels12_long (A : Option Addr) (c : Nat) (L : List Rw) (u e : Int) (l : Lb) (w : World) (he : Ends w) (hr : Rp w.heap.size w A L) (hA : A = none → c = 0 ∧ L = []) (hc : L.length ≤ c) (hm : c ≤ maxLen) (hlong : 296 < L.length) :
    Calls Tryd.prog 3 #[.agg #[.slice A L.length c, .int .i64 u, .int .i64 e], .agg l.cells] w fun x w' => x = .returned (.bool true) ∧ Below w.heap.size w w' := by
  obtain ⟨W0, hW0, b0, s0, g0, ll⟩ := rl_box w A L.length c u e l
  clear s0
  have B := Lib.hid b0
  have E := Lib.hid (he.below b0)
  have X := Lib.hid g0
  have R := Lib.hid (hr.keep b0).low
  have Pl := Lib.hid ll
  have HAl := Lib.hid (fun W he => alive12_any W he)
  have HLo := Lib.hid (fun W => long10_any A L.length c u e W)
  have q0 := fun op t W x k => guard_ev op t W x k
  have q1 := fun W k => eql_ev W k
  have q2 := fun W k => neq_ev W k
  rw [decide_eq_true hlong] at HLo
  clear hlong
  clear b0 g0 ll he hr hA hc hm
  generalize L.length = N at *
  go_enter Tryd.func3, Tryd.ntmps3
  go_upto_region 1 with fail
  rw [← hW0]; clear hW0
  go_wp2_with fail
  refine (HAl.out _ E.out).mono ?_
  rintro e1 w1 ⟨rfl, hb⟩
  have B := Lib.hid (B.out.trans (hb.mono B.out.size))
  have E := Lib.hid (E.out.below hb)
  have X := Lib.hid ((hb.block _ (bk_lt X.out)).trans X.out)
  have R := Lib.hid ((R.out.keep hb).low)
  have Pl := Lib.hid (Pl.out.keep hb)
  clear hb
  have cX0 := bk_cell X.out 0
  have cX1 := bk_cell X.out 1
  have cX2 := bk_cell X.out 2
  go_wp2_with fail
  refine (HLo.out _).mono ?_
  rintro e2 w2 ⟨rfl, hb⟩
  clear cX0 cX1 cX2
  have B := Lib.hid (B.out.trans (hb.mono B.out.size))
  have E := Lib.hid (E.out.below hb)
  have X := Lib.hid ((hb.block _ (bk_lt X.out)).trans X.out)
  have R := Lib.hid ((R.out.keep hb).low)
  have Pl := Lib.hid (Pl.out.keep hb)
  clear hb
  have cX0 := bk_cell X.out 0
  have cX1 := bk_cell X.out 1
  have cX2 := bk_cell X.out 2
  go_wp2_with fail
  go_ret
  exact ⟨rfl, B.out⟩

set_option maxRecDepth 100000 in
set_option maxHeartbeats 4000000 in
theorem labels12_no (A : Option Addr) (c : Nat) (L : List Rw) (u e : Int) (l : Lb) (w : World) (he : Ends w) (hr : Rp w.heap.size w A L) (hA : A = none → c = 0 ∧ L = []) (hc : L.length ≤ c) (hm : c ≤ maxLen) (hshort : ¬ 296 < L.length) (hk : lkE L u e ≠ 0) :
    Calls Tryd.prog 3 #[.agg #[.slice A L.length c, .int .i64 u, .int .i64 e], .agg l.cells] w fun x w' => x = .returned (.bool true) ∧ Below w.heap.size w w' := by
  obtain ⟨W0, hW0, b0, s0, g0, ll⟩ := rl_box w A L.length c u e l
  clear s0
  have B := Lib.hid b0
  have E := Lib.hid (he.below b0)
  have X := Lib.hid g0
  have R := Lib.hid (hr.keep b0).low
  have Pl := Lib.hid ll
  have HAl := Lib.hid (fun W he => alive12_any W he)
  have HLo := Lib.hid (fun W => long10_any A L.length c u e W)
  have q0 := fun op t W x k => guard_ev op t W x k
  have q1 := fun W k => eql_ev W k
  have q2 := fun W k => neq_ev W k
  rw [decide_eq_false hshort] at HLo
  have HPo := Lib.hid (fun W (he : Ends W) => posix12_any l W he)
  have HDo := Lib.hid (fun W => ldoc_any l W)
  have HRp := Lib.hid (fun W => rposix12_any l W)
  have EB := Lib.hid (lbE_lo l)
  have HM := Lib.hid (fun W (he : Ends W) (hr : Rp W.heap.size W A L) => made_no A c L u e W he (by omega) hr hc hm hk)
  have HCk := Lib.hid (fun (A1 : Option Addr) (c1 : Nat) (W : World) (hr1 : Rp W.heap.size W A1 L) => rcheck10_any A1 c1 L u e W hr1 (by omega))
  have hkb : (lkE L u e != 0) = true := bne_iff_ne.mpr hk
  generalize lkE L u e = kk at *
  clear hshort hk
  clear b0 g0 ll he hr hA hc hm
  generalize lbE l = le at *
  generalize poV l = pv at *
  generalize L.length = N at *
  go_enter Tryd.func3, Tryd.ntmps3
  go_upto_region 1 with fail
  rw [← hW0]; clear hW0
  go_wp2_with fail
  refine (HAl.out _ E.out).mono ?_
  rintro e1 w1 ⟨rfl, hb⟩
  have B := Lib.hid (B.out.trans (hb.mono B.out.size))
  have E := Lib.hid (E.out.below hb)
  have X := Lib.hid ((hb.block _ (bk_lt X.out)).trans X.out)
  have R := Lib.hid ((R.out.keep hb).low)
  have Pl := Lib.hid (Pl.out.keep hb)
  clear hb
  have cX0 := bk_cell X.out 0
  have cX1 := bk_cell X.out 1
  have cX2 := bk_cell X.out 2
  go_wp2_with fail
  refine (HLo.out _).mono ?_
  rintro e2 w2 ⟨rfl, hb⟩
  clear cX0 cX1 cX2
  have B := Lib.hid (B.out.trans (hb.mono B.out.size))
  have E := Lib.hid (E.out.below hb)
  have X := Lib.hid ((hb.block _ (bk_lt X.out)).trans X.out)
  have R := Lib.hid ((R.out.keep hb).low)
  have Pl := Lib.hid (Pl.out.keep hb)
  clear hb
  have cX0 := bk_cell X.out 0
  have cX1 := bk_cell X.out 1
  have cX2 := bk_cell X.out 2
  obtain ⟨cPl0, cPl1, cPl2, cPl3, cPl4, cPl5, cPl6, cPl7⟩ := Pl.out.all
  go_wp2_with fail
  refine (HPo.out _ E.out).mono ?_
  rintro e3 w3 ⟨rfl, hb⟩
  clear cX0 cX1 cX2 cPl0 cPl1 cPl2 cPl3 cPl4 cPl5 cPl6 cPl7
  have B := Lib.hid (B.out.trans (hb.mono B.out.size))
  have E := Lib.hid (E.out.below hb)
  have X := Lib.hid ((hb.block _ (bk_lt X.out)).trans X.out)
  have R := Lib.hid ((R.out.keep hb).low)
  have Pl := Lib.hid (Pl.out.keep hb)
  clear hb
  obtain ⟨cPl0, cPl1, cPl2, cPl3, cPl4, cPl5, cPl6, cPl7⟩ := Pl.out.all
  go_wp2_with fail
  refine (HDo.out _).mono ?_
  rintro e4 w4 ⟨rfl, hb⟩
  clear cPl0 cPl1 cPl2 cPl3 cPl4 cPl5 cPl6 cPl7
  have B := Lib.hid (B.out.trans (hb.mono B.out.size))
  have E := Lib.hid (E.out.below hb)
  have X := Lib.hid ((hb.block _ (bk_lt X.out)).trans X.out)
  have R := Lib.hid ((R.out.keep hb).low)
  have Pl := Lib.hid (Pl.out.keep hb)
  clear hb
  go_wp2_with fail
  refine (HRp.out _).mono ?_
  rintro e5 w5 ⟨rfl, hb⟩
  have B := Lib.hid (B.out.trans (hb.mono B.out.size))
  have E := Lib.hid (E.out.below hb)
  have X := Lib.hid ((hb.block _ (bk_lt X.out)).trans X.out)
  have R := Lib.hid ((R.out.keep hb).low)
  have Pl := Lib.hid (Pl.out.keep hb)
  clear hb
  have cX0 := bk_cell X.out 0
  have cX1 := bk_cell X.out 1
  have cX2 := bk_cell X.out 2
  go_wp2_with (go_at_call 13; with_reducible refine (num_any _ _ EB.out.1 EB.out.2).mono ?_; rintro e w' ⟨rfl, rfl⟩)
  refine (HM.out _ E.out R.out).mono ?_
  rintro e6 w6 ⟨A1, c1, rfl, hr1, hb⟩
  have M := Lib.hid hr1
  clear hr1
  clear cX0 cX1 cX2
  have B := Lib.hid (B.out.trans (hb.mono B.out.size))
  have E := Lib.hid (E.out.below hb)
  have X := Lib.hid ((hb.block _ (bk_lt X.out)).trans X.out)
  have R := Lib.hid ((R.out.keep hb).low)
  have Pl := Lib.hid (Pl.out.keep hb)
  clear hb
  go_upto_region 10 with fail
  obtain ⟨X6, hX⟩ : ∃ X, X = w6.alloc (.cells #[.slice A1 N c1, .int .i64 u, .int .i64 e] 41) := ⟨_, rfl⟩
  rw [← hX]
  have hb : Below w6.heap.size w6 X6 := by rw [hX]; exact bel_new _ _
  have D : Hid (X6.heap[w6.heap.size]? = some (.cells #[.slice A1 N c1, .int .i64 u, .int .i64 e] 41 (0, 0))) := Lib.hid (by rw [hX]; exact heap_alloc_new _ _)
  have B := Lib.hid (B.out.trans (hb.mono B.out.size))
  have E := Lib.hid (E.out.below hb)
  have X := Lib.hid ((hb.block _ (bk_lt X.out)).trans X.out)
  have R := Lib.hid ((R.out.keep hb).low)
  have Pl := Lib.hid (Pl.out.keep hb)
  have M := Lib.hid ((M.out.keep hb).low)
  clear hb
  clear hX
  obtain ⟨gD, hg⟩ : ∃ g, g = w6.heap.size := ⟨_, rfl⟩
  rw [← hg] at D ⊢
  clear hg
  have cD0 := bk_cell D.out 0
  have cD1 := bk_cell D.out 1
  have cD2 := bk_cell D.out 2
  go_wp2_with fail
  refine (HCk.out _ _ _ M.out).mono ?_
  rintro e7 w7 ⟨rfl, hb⟩
  clear cD0 cD1 cD2
  have B := Lib.hid (B.out.trans (hb.mono B.out.size))
  have E := Lib.hid (E.out.below hb)
  have X := Lib.hid ((hb.block _ (bk_lt X.out)).trans X.out)
  have R := Lib.hid ((R.out.keep hb).low)
  have Pl := Lib.hid (Pl.out.keep hb)
  have M := Lib.hid ((M.out.keep hb).low)
  have D := Lib.hid ((hb.block _ (bk_lt D.out)).trans D.out)
  clear hb
  go_wp2_with fail
  go_ret
  exact ⟨rfl, B.out⟩

set_option maxRecDepth 100000 in
set_option maxHeartbeats 4000000 in
theorem labels12_bad (A : Option Addr) (c : Nat) (L : List Rw) (u e : Int) (l : Lb) (w : World) (he : Ends w) (hr : Rp w.heap.size w A L) (hA : A = none → c = 0 ∧ L = []) (hc : L.length ≤ c) (hm : c ≤ maxLen) (hshort : ¬ 296 < L.length) (hk : lkE L u e = 0) (hz : lbE l ≠ 0) :
    Calls Tryd.prog 3 #[.agg #[.slice A L.length c, .int .i64 u, .int .i64 e], .agg l.cells] w fun x w' => x = .returned (.bool true) ∧ Below w.heap.size w w' := by
  obtain ⟨W0, hW0, b0, s0, g0, ll⟩ := rl_box w A L.length c u e l
  clear s0
  have B := Lib.hid b0
  have E := Lib.hid (he.below b0)
  have X := Lib.hid g0
  have R := Lib.hid (hr.keep b0).low
  have Pl := Lib.hid ll
  have HAl := Lib.hid (fun W he => alive12_any W he)
  have HLo := Lib.hid (fun W => long10_any A L.length c u e W)
  have q0 := fun op t W x k => guard_ev op t W x k
  have q1 := fun W k => eql_ev W k
  have q2 := fun W k => neq_ev W k
  rw [decide_eq_false hshort] at HLo
  have HPo := Lib.hid (fun W (he : Ends W) => posix12_any l W he)
  have HDo := Lib.hid (fun W => ldoc_any l W)
  have HRp := Lib.hid (fun W => rposix12_any l W)
  have EB := Lib.hid (lbE_lo l)
  have V := (lkE_zero hk).1
  have HM := Lib.hid (fun W (he : Ends W) (hr : Rp W.heap.size W A L) => made_some A c L u e W he (by omega) hr hA hc hm hk)
  have HSp := Lib.hid (fun W => lrsplit_any l W)
  have HHa := Lib.hid (fun (A1 : Option Addr) (c1 : Nat) (W : World) (hr1 : Rp W.heap.size W A1 L) => rhas12_any A1 c1 L u e (lbN l) (lbT l) W hr1 V)
  have HLi := Lib.hid (fun (lo g : Nat) (W : World) (h1 : Ends W) (h2 : Tb lo W g L u e) => listed12_any l h1 h2 V)
  have HTa := Lib.hid (fun (lo g : Nat) (W : World) (h1 : Ends W) (h2 : Tb lo W g L u e) => tai12_any l h1 h2 V)
  have HRt := Lib.hid (fun (A1 : Option Addr) (c1 : Nat) (W : World) (hr1 : Rp W.heap.size W A1 L) => rtai12_any A1 c1 L u e l W hr1 V)
  have EB2 := Lib.hid (taE_lo L l)
  have hlb : (lbE l != 0) = true := bne_iff_ne.mpr hz
  have hlc : (lbE l == 0) = false := beq_eq_false_iff_ne.2 hz
  rw [show liE L l = lbE l from if_neg hz] at HLi
  have EL := Lib.hid (lbE_lo l)
  clear hshort hk hz V
  clear b0 g0 ll he hr hA hc hm
  generalize lbN l = n at *
  generalize lbT l = s at *
  generalize taE L l = te at *
  generalize taV L l = tv at *
  generalize poV l = pv at *
  generalize lbE l = le at *
  generalize L.length = N at *
  go_enter Tryd.func3, Tryd.ntmps3
  go_upto_region 1 with fail
  rw [← hW0]; clear hW0
  go_wp2_with fail
  refine (HAl.out _ E.out).mono ?_
  rintro e1 w1 ⟨rfl, hb⟩
  have B := Lib.hid (B.out.trans (hb.mono B.out.size))
  have E := Lib.hid (E.out.below hb)
  have X := Lib.hid ((hb.block _ (bk_lt X.out)).trans X.out)
  have R := Lib.hid ((R.out.keep hb).low)
  have Pl := Lib.hid (Pl.out.keep hb)
  clear hb
  have cX0 := bk_cell X.out 0
  have cX1 := bk_cell X.out 1
  have cX2 := bk_cell X.out 2
  go_wp2_with fail
  refine (HLo.out _).mono ?_
  rintro e2 w2 ⟨rfl, hb⟩
  clear cX0 cX1 cX2
  have B := Lib.hid (B.out.trans (hb.mono B.out.size))
  have E := Lib.hid (E.out.below hb)
  have X := Lib.hid ((hb.block _ (bk_lt X.out)).trans X.out)
  have R := Lib.hid ((R.out.keep hb).low)
  have Pl := Lib.hid (Pl.out.keep hb)
  clear hb
  have cX0 := bk_cell X.out 0
  have cX1 := bk_cell X.out 1
  have cX2 := bk_cell X.out 2
  obtain ⟨cPl0, cPl1, cPl2, cPl3, cPl4, cPl5, cPl6, cPl7⟩ := Pl.out.all
  go_wp2_with fail
  refine (HPo.out _ E.out).mono ?_
  rintro e3 w3 ⟨rfl, hb⟩
  clear cX0 cX1 cX2 cPl0 cPl1 cPl2 cPl3 cPl4 cPl5 cPl6 cPl7
  have B := Lib.hid (B.out.trans (hb.mono B.out.size))
  have E := Lib.hid (E.out.below hb)
  have X := Lib.hid ((hb.block _ (bk_lt X.out)).trans X.out)
  have R := Lib.hid ((R.out.keep hb).low)
  have Pl := Lib.hid (Pl.out.keep hb)
  clear hb
  obtain ⟨cPl0, cPl1, cPl2, cPl3, cPl4, cPl5, cPl6, cPl7⟩ := Pl.out.all
  go_wp2_with fail
  refine (HDo.out _).mono ?_
  rintro e4 w4 ⟨rfl, hb⟩
  clear cPl0 cPl1 cPl2 cPl3 cPl4 cPl5 cPl6 cPl7
  have B := Lib.hid (B.out.trans (hb.mono B.out.size))
  have E := Lib.hid (E.out.below hb)
  have X := Lib.hid ((hb.block _ (bk_lt X.out)).trans X.out)
  have R := Lib.hid ((R.out.keep hb).low)
  have Pl := Lib.hid (Pl.out.keep hb)
  clear hb
  go_wp2_with fail
  refine (HRp.out _).mono ?_
  rintro e5 w5 ⟨rfl, hb⟩
  have B := Lib.hid (B.out.trans (hb.mono B.out.size))
  have E := Lib.hid (E.out.below hb)
  have X := Lib.hid ((hb.block _ (bk_lt X.out)).trans X.out)
  have R := Lib.hid ((R.out.keep hb).low)
  have Pl := Lib.hid (Pl.out.keep hb)
  clear hb
  have cX0 := bk_cell X.out 0
  have cX1 := bk_cell X.out 1
  have cX2 := bk_cell X.out 2
  go_wp2_with (go_at_call 13; with_reducible refine (num_any _ _ EB.out.1 EB.out.2).mono ?_; rintro e w' ⟨rfl, rfl⟩)
  refine (HM.out _ E.out R.out).mono ?_
  rintro e6 w6 ⟨g, A1, c1, rfl, ht, hr1, hb⟩
  have M := Lib.hid hr1
  have T := Lib.hid ht
  clear hr1 ht
  clear cX0 cX1 cX2
  have B := Lib.hid (B.out.trans (hb.mono B.out.size))
  have E := Lib.hid (E.out.below hb)
  have X := Lib.hid ((hb.block _ (bk_lt X.out)).trans X.out)
  have R := Lib.hid ((R.out.keep hb).low)
  have Pl := Lib.hid (Pl.out.keep hb)
  clear hb
  go_upto_region 10 with fail
  obtain ⟨X6, hX⟩ : ∃ X, X = w6.alloc (.cells #[.slice A1 N c1, .int .i64 u, .int .i64 e] 41) := ⟨_, rfl⟩
  rw [← hX]
  have hb : Below w6.heap.size w6 X6 := by rw [hX]; exact bel_new _ _
  have D : Hid (X6.heap[w6.heap.size]? = some (.cells #[.slice A1 N c1, .int .i64 u, .int .i64 e] 41 (0, 0))) := Lib.hid (by rw [hX]; exact heap_alloc_new _ _)
  have B := Lib.hid (B.out.trans (hb.mono B.out.size))
  have E := Lib.hid (E.out.below hb)
  have X := Lib.hid ((hb.block _ (bk_lt X.out)).trans X.out)
  have R := Lib.hid ((R.out.keep hb).low)
  have Pl := Lib.hid (Pl.out.keep hb)
  have M := Lib.hid ((M.out.keep hb).low)
  have T := Lib.hid (T.out.below hb)
  clear hb
  clear hX
  obtain ⟨gD, hg⟩ : ∃ g, g = w6.heap.size := ⟨_, rfl⟩
  rw [← hg] at D ⊢
  clear hg
  obtain ⟨cPl0, cPl1, cPl2, cPl3, cPl4, cPl5, cPl6, cPl7⟩ := Pl.out.all
  go_wp2_with fail
  refine (HDo.out _).mono ?_
  rintro e7 w7 ⟨rfl, hb⟩
  clear cPl0 cPl1 cPl2 cPl3 cPl4 cPl5 cPl6 cPl7
  have B := Lib.hid (B.out.trans (hb.mono B.out.size))
  have E := Lib.hid (E.out.below hb)
  have X := Lib.hid ((hb.block _ (bk_lt X.out)).trans X.out)
  have R := Lib.hid ((R.out.keep hb).low)
  have Pl := Lib.hid (Pl.out.keep hb)
  have M := Lib.hid ((M.out.keep hb).low)
  have T := Lib.hid (T.out.below hb)
  have D := Lib.hid ((hb.block _ (bk_lt D.out)).trans D.out)
  clear hb
  go_wp2_with fail
  refine (HSp.out _).mono ?_
  rintro e8 w8 ⟨rfl, hb⟩
  have B := Lib.hid (B.out.trans (hb.mono B.out.size))
  have E := Lib.hid (E.out.below hb)
  have X := Lib.hid ((hb.block _ (bk_lt X.out)).trans X.out)
  have R := Lib.hid ((R.out.keep hb).low)
  have Pl := Lib.hid (Pl.out.keep hb)
  have M := Lib.hid ((M.out.keep hb).low)
  have T := Lib.hid (T.out.below hb)
  have D := Lib.hid ((hb.block _ (bk_lt D.out)).trans D.out)
  clear hb
  obtain ⟨cPl0, cPl1, cPl2, cPl3, cPl4, cPl5, cPl6, cPl7⟩ := Pl.out.all
  go_wp2_with fail
  refine (HLi.out _ _ _ E.out T.out).mono ?_
  rintro e9 w9 ⟨rfl, hb⟩
  clear cPl0 cPl1 cPl2 cPl3 cPl4 cPl5 cPl6 cPl7
  have B := Lib.hid (B.out.trans (hb.mono B.out.size))
  have E := Lib.hid (E.out.below hb)
  have X := Lib.hid ((hb.block _ (bk_lt X.out)).trans X.out)
  have R := Lib.hid ((R.out.keep hb).low)
  have Pl := Lib.hid (Pl.out.keep hb)
  have M := Lib.hid ((M.out.keep hb).low)
  have T := Lib.hid (T.out.below hb)
  have D := Lib.hid ((hb.block _ (bk_lt D.out)).trans D.out)
  clear hb
  obtain ⟨cPl0, cPl1, cPl2, cPl3, cPl4, cPl5, cPl6, cPl7⟩ := Pl.out.all
  go_wp2_with (go_at_call 13; with_reducible refine (num_any _ _ EL.out.1 EL.out.2).mono ?_; rintro e w' ⟨rfl, rfl⟩)
  refine (HTa.out _ _ _ E.out T.out).mono ?_
  rintro e10 w10 ⟨rfl, hb⟩
  clear cPl0 cPl1 cPl2 cPl3 cPl4 cPl5 cPl6 cPl7
  have B := Lib.hid (B.out.trans (hb.mono B.out.size))
  have E := Lib.hid (E.out.below hb)
  have X := Lib.hid ((hb.block _ (bk_lt X.out)).trans X.out)
  have R := Lib.hid ((R.out.keep hb).low)
  have Pl := Lib.hid (Pl.out.keep hb)
  have M := Lib.hid ((M.out.keep hb).low)
  have T := Lib.hid (T.out.below hb)
  have D := Lib.hid ((hb.block _ (bk_lt D.out)).trans D.out)
  clear hb
  go_upto_region 18 with fail
  have cD0 := bk_cell D.out 0
  have cD1 := bk_cell D.out 1
  have cD2 := bk_cell D.out 2
  obtain ⟨cPl0, cPl1, cPl2, cPl3, cPl4, cPl5, cPl6, cPl7⟩ := Pl.out.all
  have HS9 : Hid (∀ W, Kq w10 W → ((W.cell? ⟨gD, 0, none⟩ = some (.slice A1 N c1) ∧ W.cell? ⟨gD, 1, none⟩ = some (.int .i64 u) ∧ W.cell? ⟨gD, 2, none⟩ = some (.int .i64 e)) ∧ W.cell? ⟨w.heap.size + 1, 0, none⟩ = some (.int .i64 l.y) ∧ W.cell? ⟨w.heap.size + 1, 1, none⟩ = some (.int .i64 l.m) ∧ W.cell? ⟨w.heap.size + 1, 2, none⟩ = some (.int .i64 l.d) ∧ W.cell? ⟨w.heap.size + 1, 3, none⟩ = some (.int .i64 l.h) ∧ W.cell? ⟨w.heap.size + 1, 4, none⟩ = some (.int .i64 l.i) ∧ W.cell? ⟨w.heap.size + 1, 5, none⟩ = some (.int .i64 l.s) ∧ W.cell? ⟨w.heap.size + 1, 6, none⟩ = some (.int .i64 l.n) ∧ W.cell? ⟨w.heap.size + 1, 7, none⟩ = some (.int .i64 l.o)) ∧ Kq w10 W) := Lib.hid fun W hk => ⟨⟨⟨(hk.bel.cell (p := ⟨_, 0, none⟩) (bk_lt D.out)).trans cD0, (hk.bel.cell (p := ⟨_, 1, none⟩) (bk_lt D.out)).trans cD1, (hk.bel.cell (p := ⟨_, 2, none⟩) (bk_lt D.out)).trans cD2⟩, ⟨(hk.bel.cell (p := ⟨_, 0, none⟩) Pl.out.lt).trans cPl0, (hk.bel.cell (p := ⟨_, 1, none⟩) Pl.out.lt).trans cPl1, (hk.bel.cell (p := ⟨_, 2, none⟩) Pl.out.lt).trans cPl2, (hk.bel.cell (p := ⟨_, 3, none⟩) Pl.out.lt).trans cPl3, (hk.bel.cell (p := ⟨_, 4, none⟩) Pl.out.lt).trans cPl4, (hk.bel.cell (p := ⟨_, 5, none⟩) Pl.out.lt).trans cPl5, (hk.bel.cell (p := ⟨_, 6, none⟩) Pl.out.lt).trans cPl6, (hk.bel.cell (p := ⟨_, 7, none⟩) Pl.out.lt).trans cPl7⟩⟩, hk⟩
  have hKD : Kq w10 w10.drew := ⟨(Below.refl _ w10).drew⟩
  go_region_held3 (fun W => ((W.cell? ⟨gD, 0, none⟩ = some (.slice A1 N c1) ∧ W.cell? ⟨gD, 1, none⟩ = some (.int .i64 u) ∧ W.cell? ⟨gD, 2, none⟩ = some (.int .i64 e)) ∧ W.cell? ⟨w.heap.size + 1, 0, none⟩ = some (.int .i64 l.y) ∧ W.cell? ⟨w.heap.size + 1, 1, none⟩ = some (.int .i64 l.m) ∧ W.cell? ⟨w.heap.size + 1, 2, none⟩ = some (.int .i64 l.d) ∧ W.cell? ⟨w.heap.size + 1, 3, none⟩ = some (.int .i64 l.h) ∧ W.cell? ⟨w.heap.size + 1, 4, none⟩ = some (.int .i64 l.i) ∧ W.cell? ⟨w.heap.size + 1, 5, none⟩ = some (.int .i64 l.s) ∧ W.cell? ⟨w.heap.size + 1, 6, none⟩ = some (.int .i64 l.n) ∧ W.cell? ⟨w.heap.size + 1, 7, none⟩ = some (.int .i64 l.o)) ∧ Kq w10 W)
    (exact HS9.out _ (by assumption))
    (first
      | (go_at_call 12; go_split_ands; refine (ldoc_any l _).mono ?_; rintro ed wd ⟨rfl, hq⟩; have hkd : Kq w10 wd := Kq.step (by assumption) hq; clear hq)
      | (go_at_call 20; go_split_ands; refine (HRt.out _ _ _ ((M.out.keep (Kq.bel (W0 := w10) (by assumption))).low)).mono ?_; rintro et wt ⟨rfl, hq⟩; have hkt : Kq w10 wt := Kq.step (by assumption) hq; clear hq))
  clear cD0 cD1 cD2 cPl0 cPl1 cPl2 cPl3 cPl4 cPl5 cPl6 cPl7
  have hb := Kq.bel (W0 := w10) (by assumption)
  have B := Lib.hid (B.out.trans (hb.mono B.out.size))
  have E := Lib.hid (E.out.below hb)
  have X := Lib.hid ((hb.block _ (bk_lt X.out)).trans X.out)
  have R := Lib.hid ((R.out.keep hb).low)
  have Pl := Lib.hid (Pl.out.keep hb)
  have M := Lib.hid ((M.out.keep hb).low)
  have T := Lib.hid (T.out.below hb)
  have D := Lib.hid ((hb.block _ (bk_lt D.out)).trans D.out)
  clear hb
  go_wp2_with (go_at_call 13; with_reducible refine (num_any _ _ EB2.out.1 EB2.out.2).mono ?_; rintro e w' ⟨rfl, rfl⟩)
  go_ret
  exact ⟨rfl, B.out⟩

set_option maxRecDepth 100000 in
set_option maxHeartbeats 4000000 in
theorem labels12_yes (A : Option Addr) (c : Nat) (L : List Rw) (u e : Int) (l : Lb) (w : World) (he : Ends w) (hr : Rp w.heap.size w A L) (hA : A = none → c = 0 ∧ L = []) (hc : L.length ≤ c) (hm : c ≤ maxLen) (hshort : ¬ 296 < L.length) (hk : lkE L u e = 0) (hz : lbE l = 0) (hh : hsB L (lbN l) (lbT l) = true) :
    Calls Tryd.prog 3 #[.agg #[.slice A L.length c, .int .i64 u, .int .i64 e], .agg l.cells] w fun x w' => x = .returned (.bool true) ∧ Below w.heap.size w w' := by
  obtain ⟨W0, hW0, b0, s0, g0, ll⟩ := rl_box w A L.length c u e l
  clear s0
  have B := Lib.hid b0
  have E := Lib.hid (he.below b0)
  have X := Lib.hid g0
  have R := Lib.hid (hr.keep b0).low
  have Pl := Lib.hid ll
  have HAl := Lib.hid (fun W he => alive12_any W he)
  have HLo := Lib.hid (fun W => long10_any A L.length c u e W)
  have q0 := fun op t W x k => guard_ev op t W x k
  have q1 := fun W k => eql_ev W k
  have q2 := fun W k => neq_ev W k
  rw [decide_eq_false hshort] at HLo
  have HPo := Lib.hid (fun W (he : Ends W) => posix12_any l W he)
  have HDo := Lib.hid (fun W => ldoc_any l W)
  have HRp := Lib.hid (fun W => rposix12_any l W)
  have EB := Lib.hid (lbE_lo l)
  have V := (lkE_zero hk).1
  have HM := Lib.hid (fun W (he : Ends W) (hr : Rp W.heap.size W A L) => made_some A c L u e W he (by omega) hr hA hc hm hk)
  have HSp := Lib.hid (fun W => lrsplit_any l W)
  have HHa := Lib.hid (fun (A1 : Option Addr) (c1 : Nat) (W : World) (hr1 : Rp W.heap.size W A1 L) => rhas12_any A1 c1 L u e (lbN l) (lbT l) W hr1 V)
  have HLi := Lib.hid (fun (lo g : Nat) (W : World) (h1 : Ends W) (h2 : Tb lo W g L u e) => listed12_any l h1 h2 V)
  have HTa := Lib.hid (fun (lo g : Nat) (W : World) (h1 : Ends W) (h2 : Tb lo W g L u e) => tai12_any l h1 h2 V)
  have HRt := Lib.hid (fun (A1 : Option Addr) (c1 : Nat) (W : World) (hr1 : Rp W.heap.size W A1 L) => rtai12_any A1 c1 L u e l W hr1 V)
  have EB2 := Lib.hid (taE_lo L l)
  rw [show liE L l = 0 by unfold liE; rw [if_pos hz, if_pos hh]] at HLi
  rw [hz] at HPo HRp HSp
  rw [hh] at HHa
  have EL : Hid ((0 : Int) ≤ 0 ∧ (0 : Int) < 100) := Lib.hid ⟨by decide, by decide⟩
  have EB : Hid ((0 : Int) ≤ 0 ∧ (0 : Int) < 100) := Lib.hid ⟨by decide, by decide⟩
  clear hshort hk hz hh V
  clear b0 g0 ll he hr hA hc hm
  generalize lbN l = n at *
  generalize lbT l = s at *
  generalize taE L l = te at *
  generalize taV L l = tv at *
  generalize poV l = pv at *
  generalize L.length = N at *
  go_enter Tryd.func3, Tryd.ntmps3
  go_upto_region 1 with fail
  rw [← hW0]; clear hW0
  go_wp2_with fail
  refine (HAl.out _ E.out).mono ?_
  rintro e1 w1 ⟨rfl, hb⟩
  have B := Lib.hid (B.out.trans (hb.mono B.out.size))
  have E := Lib.hid (E.out.below hb)
  have X := Lib.hid ((hb.block _ (bk_lt X.out)).trans X.out)
  have R := Lib.hid ((R.out.keep hb).low)
  have Pl := Lib.hid (Pl.out.keep hb)
  clear hb
  have cX0 := bk_cell X.out 0
  have cX1 := bk_cell X.out 1
  have cX2 := bk_cell X.out 2
  go_wp2_with fail
  refine (HLo.out _).mono ?_
  rintro e2 w2 ⟨rfl, hb⟩
  clear cX0 cX1 cX2
  have B := Lib.hid (B.out.trans (hb.mono B.out.size))
  have E := Lib.hid (E.out.below hb)
  have X := Lib.hid ((hb.block _ (bk_lt X.out)).trans X.out)
  have R := Lib.hid ((R.out.keep hb).low)
  have Pl := Lib.hid (Pl.out.keep hb)
  clear hb
  have cX0 := bk_cell X.out 0
  have cX1 := bk_cell X.out 1
  have cX2 := bk_cell X.out 2
  obtain ⟨cPl0, cPl1, cPl2, cPl3, cPl4, cPl5, cPl6, cPl7⟩ := Pl.out.all
  go_wp2_with fail
  refine (HPo.out _ E.out).mono ?_
  rintro e3 w3 ⟨rfl, hb⟩
  clear cX0 cX1 cX2 cPl0 cPl1 cPl2 cPl3 cPl4 cPl5 cPl6 cPl7
  have B := Lib.hid (B.out.trans (hb.mono B.out.size))
  have E := Lib.hid (E.out.below hb)
  have X := Lib.hid ((hb.block _ (bk_lt X.out)).trans X.out)
  have R := Lib.hid ((R.out.keep hb).low)
  have Pl := Lib.hid (Pl.out.keep hb)
  clear hb
  obtain ⟨cPl0, cPl1, cPl2, cPl3, cPl4, cPl5, cPl6, cPl7⟩ := Pl.out.all
  go_wp2_with fail
  refine (HDo.out _).mono ?_
  rintro e4 w4 ⟨rfl, hb⟩
  clear cPl0 cPl1 cPl2 cPl3 cPl4 cPl5 cPl6 cPl7
  have B := Lib.hid (B.out.trans (hb.mono B.out.size))
  have E := Lib.hid (E.out.below hb)
  have X := Lib.hid ((hb.block _ (bk_lt X.out)).trans X.out)
  have R := Lib.hid ((R.out.keep hb).low)
  have Pl := Lib.hid (Pl.out.keep hb)
  clear hb
  go_wp2_with fail
  refine (HRp.out _).mono ?_
  rintro e5 w5 ⟨rfl, hb⟩
  have B := Lib.hid (B.out.trans (hb.mono B.out.size))
  have E := Lib.hid (E.out.below hb)
  have X := Lib.hid ((hb.block _ (bk_lt X.out)).trans X.out)
  have R := Lib.hid ((R.out.keep hb).low)
  have Pl := Lib.hid (Pl.out.keep hb)
  clear hb
  have cX0 := bk_cell X.out 0
  have cX1 := bk_cell X.out 1
  have cX2 := bk_cell X.out 2
  go_wp2_with (go_at_call 13; with_reducible refine (num_any _ _ EB.out.1 EB.out.2).mono ?_; rintro e w' ⟨rfl, rfl⟩)
  refine (HM.out _ E.out R.out).mono ?_
  rintro e6 w6 ⟨g, A1, c1, rfl, ht, hr1, hb⟩
  have M := Lib.hid hr1
  have T := Lib.hid ht
  clear hr1 ht
  clear cX0 cX1 cX2
  have B := Lib.hid (B.out.trans (hb.mono B.out.size))
  have E := Lib.hid (E.out.below hb)
  have X := Lib.hid ((hb.block _ (bk_lt X.out)).trans X.out)
  have R := Lib.hid ((R.out.keep hb).low)
  have Pl := Lib.hid (Pl.out.keep hb)
  clear hb
  go_upto_region 10 with fail
  obtain ⟨X6, hX⟩ : ∃ X, X = w6.alloc (.cells #[.slice A1 N c1, .int .i64 u, .int .i64 e] 41) := ⟨_, rfl⟩
  rw [← hX]
  have hb : Below w6.heap.size w6 X6 := by rw [hX]; exact bel_new _ _
  have D : Hid (X6.heap[w6.heap.size]? = some (.cells #[.slice A1 N c1, .int .i64 u, .int .i64 e] 41 (0, 0))) := Lib.hid (by rw [hX]; exact heap_alloc_new _ _)
  have B := Lib.hid (B.out.trans (hb.mono B.out.size))
  have E := Lib.hid (E.out.below hb)
  have X := Lib.hid ((hb.block _ (bk_lt X.out)).trans X.out)
  have R := Lib.hid ((R.out.keep hb).low)
  have Pl := Lib.hid (Pl.out.keep hb)
  have M := Lib.hid ((M.out.keep hb).low)
  have T := Lib.hid (T.out.below hb)
  clear hb
  clear hX
  obtain ⟨gD, hg⟩ : ∃ g, g = w6.heap.size := ⟨_, rfl⟩
  rw [← hg] at D ⊢
  clear hg
  obtain ⟨cPl0, cPl1, cPl2, cPl3, cPl4, cPl5, cPl6, cPl7⟩ := Pl.out.all
  go_wp2_with fail
  refine (HDo.out _).mono ?_
  rintro e7 w7 ⟨rfl, hb⟩
  clear cPl0 cPl1 cPl2 cPl3 cPl4 cPl5 cPl6 cPl7
  have B := Lib.hid (B.out.trans (hb.mono B.out.size))
  have E := Lib.hid (E.out.below hb)
  have X := Lib.hid ((hb.block _ (bk_lt X.out)).trans X.out)
  have R := Lib.hid ((R.out.keep hb).low)
  have Pl := Lib.hid (Pl.out.keep hb)
  have M := Lib.hid ((M.out.keep hb).low)
  have T := Lib.hid (T.out.below hb)
  have D := Lib.hid ((hb.block _ (bk_lt D.out)).trans D.out)
  clear hb
  go_wp2_with fail
  refine (HSp.out _).mono ?_
  rintro e8 w8 ⟨rfl, hb⟩
  have B := Lib.hid (B.out.trans (hb.mono B.out.size))
  have E := Lib.hid (E.out.below hb)
  have X := Lib.hid ((hb.block _ (bk_lt X.out)).trans X.out)
  have R := Lib.hid ((R.out.keep hb).low)
  have Pl := Lib.hid (Pl.out.keep hb)
  have M := Lib.hid ((M.out.keep hb).low)
  have T := Lib.hid (T.out.below hb)
  have D := Lib.hid ((hb.block _ (bk_lt D.out)).trans D.out)
  clear hb
  have cD0 := bk_cell D.out 0
  have cD1 := bk_cell D.out 1
  have cD2 := bk_cell D.out 2
  go_wp2_with fail
  refine (HHa.out _ _ _ M.out).mono ?_
  rintro e9 w9 ⟨rfl, hb⟩
  clear cD0 cD1 cD2
  have B := Lib.hid (B.out.trans (hb.mono B.out.size))
  have E := Lib.hid (E.out.below hb)
  have X := Lib.hid ((hb.block _ (bk_lt X.out)).trans X.out)
  have R := Lib.hid ((R.out.keep hb).low)
  have Pl := Lib.hid (Pl.out.keep hb)
  have M := Lib.hid ((M.out.keep hb).low)
  have T := Lib.hid (T.out.below hb)
  have D := Lib.hid ((hb.block _ (bk_lt D.out)).trans D.out)
  clear hb
  obtain ⟨cPl0, cPl1, cPl2, cPl3, cPl4, cPl5, cPl6, cPl7⟩ := Pl.out.all
  go_wp2_with fail
  refine (HLi.out _ _ _ E.out T.out).mono ?_
  rintro e10 w10 ⟨rfl, hb⟩
  clear cPl0 cPl1 cPl2 cPl3 cPl4 cPl5 cPl6 cPl7
  have B := Lib.hid (B.out.trans (hb.mono B.out.size))
  have E := Lib.hid (E.out.below hb)
  have X := Lib.hid ((hb.block _ (bk_lt X.out)).trans X.out)
  have R := Lib.hid ((R.out.keep hb).low)
  have Pl := Lib.hid (Pl.out.keep hb)
  have M := Lib.hid ((M.out.keep hb).low)
  have T := Lib.hid (T.out.below hb)
  have D := Lib.hid ((hb.block _ (bk_lt D.out)).trans D.out)
  clear hb
  obtain ⟨cPl0, cPl1, cPl2, cPl3, cPl4, cPl5, cPl6, cPl7⟩ := Pl.out.all
  go_wp2_with (go_at_call 13; with_reducible refine (num_any _ _ EL.out.1 EL.out.2).mono ?_; rintro e w' ⟨rfl, rfl⟩)
  refine (HTa.out _ _ _ E.out T.out).mono ?_
  rintro e11 w11 ⟨rfl, hb⟩
  clear cPl0 cPl1 cPl2 cPl3 cPl4 cPl5 cPl6 cPl7
  have B := Lib.hid (B.out.trans (hb.mono B.out.size))
  have E := Lib.hid (E.out.below hb)
  have X := Lib.hid ((hb.block _ (bk_lt X.out)).trans X.out)
  have R := Lib.hid ((R.out.keep hb).low)
  have Pl := Lib.hid (Pl.out.keep hb)
  have M := Lib.hid ((M.out.keep hb).low)
  have T := Lib.hid (T.out.below hb)
  have D := Lib.hid ((hb.block _ (bk_lt D.out)).trans D.out)
  clear hb
  go_upto_region 18 with fail
  have cD0 := bk_cell D.out 0
  have cD1 := bk_cell D.out 1
  have cD2 := bk_cell D.out 2
  obtain ⟨cPl0, cPl1, cPl2, cPl3, cPl4, cPl5, cPl6, cPl7⟩ := Pl.out.all
  have HS9 : Hid (∀ W, Kq w11 W → ((W.cell? ⟨gD, 0, none⟩ = some (.slice A1 N c1) ∧ W.cell? ⟨gD, 1, none⟩ = some (.int .i64 u) ∧ W.cell? ⟨gD, 2, none⟩ = some (.int .i64 e)) ∧ W.cell? ⟨w.heap.size + 1, 0, none⟩ = some (.int .i64 l.y) ∧ W.cell? ⟨w.heap.size + 1, 1, none⟩ = some (.int .i64 l.m) ∧ W.cell? ⟨w.heap.size + 1, 2, none⟩ = some (.int .i64 l.d) ∧ W.cell? ⟨w.heap.size + 1, 3, none⟩ = some (.int .i64 l.h) ∧ W.cell? ⟨w.heap.size + 1, 4, none⟩ = some (.int .i64 l.i) ∧ W.cell? ⟨w.heap.size + 1, 5, none⟩ = some (.int .i64 l.s) ∧ W.cell? ⟨w.heap.size + 1, 6, none⟩ = some (.int .i64 l.n) ∧ W.cell? ⟨w.heap.size + 1, 7, none⟩ = some (.int .i64 l.o)) ∧ Kq w11 W) := Lib.hid fun W hk => ⟨⟨⟨(hk.bel.cell (p := ⟨_, 0, none⟩) (bk_lt D.out)).trans cD0, (hk.bel.cell (p := ⟨_, 1, none⟩) (bk_lt D.out)).trans cD1, (hk.bel.cell (p := ⟨_, 2, none⟩) (bk_lt D.out)).trans cD2⟩, ⟨(hk.bel.cell (p := ⟨_, 0, none⟩) Pl.out.lt).trans cPl0, (hk.bel.cell (p := ⟨_, 1, none⟩) Pl.out.lt).trans cPl1, (hk.bel.cell (p := ⟨_, 2, none⟩) Pl.out.lt).trans cPl2, (hk.bel.cell (p := ⟨_, 3, none⟩) Pl.out.lt).trans cPl3, (hk.bel.cell (p := ⟨_, 4, none⟩) Pl.out.lt).trans cPl4, (hk.bel.cell (p := ⟨_, 5, none⟩) Pl.out.lt).trans cPl5, (hk.bel.cell (p := ⟨_, 6, none⟩) Pl.out.lt).trans cPl6, (hk.bel.cell (p := ⟨_, 7, none⟩) Pl.out.lt).trans cPl7⟩⟩, hk⟩
  have hKD : Kq w11 w11.drew := ⟨(Below.refl _ w11).drew⟩
  go_region_held3 (fun W => ((W.cell? ⟨gD, 0, none⟩ = some (.slice A1 N c1) ∧ W.cell? ⟨gD, 1, none⟩ = some (.int .i64 u) ∧ W.cell? ⟨gD, 2, none⟩ = some (.int .i64 e)) ∧ W.cell? ⟨w.heap.size + 1, 0, none⟩ = some (.int .i64 l.y) ∧ W.cell? ⟨w.heap.size + 1, 1, none⟩ = some (.int .i64 l.m) ∧ W.cell? ⟨w.heap.size + 1, 2, none⟩ = some (.int .i64 l.d) ∧ W.cell? ⟨w.heap.size + 1, 3, none⟩ = some (.int .i64 l.h) ∧ W.cell? ⟨w.heap.size + 1, 4, none⟩ = some (.int .i64 l.i) ∧ W.cell? ⟨w.heap.size + 1, 5, none⟩ = some (.int .i64 l.s) ∧ W.cell? ⟨w.heap.size + 1, 6, none⟩ = some (.int .i64 l.n) ∧ W.cell? ⟨w.heap.size + 1, 7, none⟩ = some (.int .i64 l.o)) ∧ Kq w11 W)
    (exact HS9.out _ (by assumption))
    (first
      | (go_at_call 12; go_split_ands; refine (ldoc_any l _).mono ?_; rintro ed wd ⟨rfl, hq⟩; have hkd : Kq w11 wd := Kq.step (by assumption) hq; clear hq)
      | (go_at_call 20; go_split_ands; refine (HRt.out _ _ _ ((M.out.keep (Kq.bel (W0 := w11) (by assumption))).low)).mono ?_; rintro et wt ⟨rfl, hq⟩; have hkt : Kq w11 wt := Kq.step (by assumption) hq; clear hq))
  clear cD0 cD1 cD2 cPl0 cPl1 cPl2 cPl3 cPl4 cPl5 cPl6 cPl7
  have hb := Kq.bel (W0 := w11) (by assumption)
  have B := Lib.hid (B.out.trans (hb.mono B.out.size))
  have E := Lib.hid (E.out.below hb)
  have X := Lib.hid ((hb.block _ (bk_lt X.out)).trans X.out)
  have R := Lib.hid ((R.out.keep hb).low)
  have Pl := Lib.hid (Pl.out.keep hb)
  have M := Lib.hid ((M.out.keep hb).low)
  have T := Lib.hid (T.out.below hb)
  have D := Lib.hid ((hb.block _ (bk_lt D.out)).trans D.out)
  clear hb
  go_wp2_with (go_at_call 13; with_reducible refine (num_any _ _ EB2.out.1 EB2.out.2).mono ?_; rintro e w' ⟨rfl, rfl⟩)
  go_ret
  exact ⟨rfl, B.out⟩

set_option maxRecDepth 100000 in
set_option maxHeartbeats 4000000 in
theorem labels12_leap (A : Option Addr) (c : Nat) (L : List Rw) (u e : Int) (l : Lb) (w : World) (he : Ends w) (hr : Rp w.heap.size w A L) (hA : A = none → c = 0 ∧ L = []) (hc : L.length ≤ c) (hm : c ≤ maxLen) (hshort : ¬ 296 < L.length) (hk : lkE L u e = 0) (hz : lbE l = 0) (hh : hsB L (lbN l) (lbT l) = false) :
    Calls Tryd.prog 3 #[.agg #[.slice A L.length c, .int .i64 u, .int .i64 e], .agg l.cells] w fun x w' => x = .returned (.bool true) ∧ Below w.heap.size w w' := by
  obtain ⟨W0, hW0, b0, s0, g0, ll⟩ := rl_box w A L.length c u e l
  clear s0
  have B := Lib.hid b0
  have E := Lib.hid (he.below b0)
  have X := Lib.hid g0
  have R := Lib.hid (hr.keep b0).low
  have Pl := Lib.hid ll
  have HAl := Lib.hid (fun W he => alive12_any W he)
  have HLo := Lib.hid (fun W => long10_any A L.length c u e W)
  have q0 := fun op t W x k => guard_ev op t W x k
  have q1 := fun W k => eql_ev W k
  have q2 := fun W k => neq_ev W k
  rw [decide_eq_false hshort] at HLo
  have HPo := Lib.hid (fun W (he : Ends W) => posix12_any l W he)
  have HDo := Lib.hid (fun W => ldoc_any l W)
  have HRp := Lib.hid (fun W => rposix12_any l W)
  have EB := Lib.hid (lbE_lo l)
  have V := (lkE_zero hk).1
  have HM := Lib.hid (fun W (he : Ends W) (hr : Rp W.heap.size W A L) => made_some A c L u e W he (by omega) hr hA hc hm hk)
  have HSp := Lib.hid (fun W => lrsplit_any l W)
  have HHa := Lib.hid (fun (A1 : Option Addr) (c1 : Nat) (W : World) (hr1 : Rp W.heap.size W A1 L) => rhas12_any A1 c1 L u e (lbN l) (lbT l) W hr1 V)
  have HLi := Lib.hid (fun (lo g : Nat) (W : World) (h1 : Ends W) (h2 : Tb lo W g L u e) => listed12_any l h1 h2 V)
  have HTa := Lib.hid (fun (lo g : Nat) (W : World) (h1 : Ends W) (h2 : Tb lo W g L u e) => tai12_any l h1 h2 V)
  have HRt := Lib.hid (fun (A1 : Option Addr) (c1 : Nat) (W : World) (hr1 : Rp W.heap.size W A1 L) => rtai12_any A1 c1 L u e l W hr1 V)
  have EB2 := Lib.hid (taE_lo L l)
  rw [show liE L l = 12 by unfold liE; rw [if_pos hz, if_neg (by rw [hh]; decide)]] at HLi
  rw [hz] at HPo HRp HSp
  rw [hh] at HHa
  have EL : Hid ((0 : Int) ≤ 12 ∧ (12 : Int) < 100) := Lib.hid ⟨by decide, by decide⟩
  have EB : Hid ((0 : Int) ≤ 0 ∧ (0 : Int) < 100) := Lib.hid ⟨by decide, by decide⟩
  clear hshort hk hz hh V
  clear b0 g0 ll he hr hA hc hm
  generalize lbN l = n at *
  generalize lbT l = s at *
  generalize taE L l = te at *
  generalize taV L l = tv at *
  generalize poV l = pv at *
  generalize L.length = N at *
  go_enter Tryd.func3, Tryd.ntmps3
  go_upto_region 1 with fail
  rw [← hW0]; clear hW0
  go_wp2_with fail
  refine (HAl.out _ E.out).mono ?_
  rintro e1 w1 ⟨rfl, hb⟩
  have B := Lib.hid (B.out.trans (hb.mono B.out.size))
  have E := Lib.hid (E.out.below hb)
  have X := Lib.hid ((hb.block _ (bk_lt X.out)).trans X.out)
  have R := Lib.hid ((R.out.keep hb).low)
  have Pl := Lib.hid (Pl.out.keep hb)
  clear hb
  have cX0 := bk_cell X.out 0
  have cX1 := bk_cell X.out 1
  have cX2 := bk_cell X.out 2
  go_wp2_with fail
  refine (HLo.out _).mono ?_
  rintro e2 w2 ⟨rfl, hb⟩
  clear cX0 cX1 cX2
  have B := Lib.hid (B.out.trans (hb.mono B.out.size))
  have E := Lib.hid (E.out.below hb)
  have X := Lib.hid ((hb.block _ (bk_lt X.out)).trans X.out)
  have R := Lib.hid ((R.out.keep hb).low)
  have Pl := Lib.hid (Pl.out.keep hb)
  clear hb
  have cX0 := bk_cell X.out 0
  have cX1 := bk_cell X.out 1
  have cX2 := bk_cell X.out 2
  obtain ⟨cPl0, cPl1, cPl2, cPl3, cPl4, cPl5, cPl6, cPl7⟩ := Pl.out.all
  go_wp2_with fail
  refine (HPo.out _ E.out).mono ?_
  rintro e3 w3 ⟨rfl, hb⟩
  clear cX0 cX1 cX2 cPl0 cPl1 cPl2 cPl3 cPl4 cPl5 cPl6 cPl7
  have B := Lib.hid (B.out.trans (hb.mono B.out.size))
  have E := Lib.hid (E.out.below hb)
  have X := Lib.hid ((hb.block _ (bk_lt X.out)).trans X.out)
  have R := Lib.hid ((R.out.keep hb).low)
  have Pl := Lib.hid (Pl.out.keep hb)
  clear hb
  obtain ⟨cPl0, cPl1, cPl2, cPl3, cPl4, cPl5, cPl6, cPl7⟩ := Pl.out.all
  go_wp2_with fail
  refine (HDo.out _).mono ?_
  rintro e4 w4 ⟨rfl, hb⟩
  clear cPl0 cPl1 cPl2 cPl3 cPl4 cPl5 cPl6 cPl7
  have B := Lib.hid (B.out.trans (hb.mono B.out.size))
  have E := Lib.hid (E.out.below hb)
  have X := Lib.hid ((hb.block _ (bk_lt X.out)).trans X.out)
  have R := Lib.hid ((R.out.keep hb).low)
  have Pl := Lib.hid (Pl.out.keep hb)
  clear hb
  go_wp2_with fail
  refine (HRp.out _).mono ?_
  rintro e5 w5 ⟨rfl, hb⟩
  have B := Lib.hid (B.out.trans (hb.mono B.out.size))
  have E := Lib.hid (E.out.below hb)
  have X := Lib.hid ((hb.block _ (bk_lt X.out)).trans X.out)
  have R := Lib.hid ((R.out.keep hb).low)
  have Pl := Lib.hid (Pl.out.keep hb)
  clear hb
  have cX0 := bk_cell X.out 0
  have cX1 := bk_cell X.out 1
  have cX2 := bk_cell X.out 2
  go_wp2_with (go_at_call 13; with_reducible refine (num_any _ _ EB.out.1 EB.out.2).mono ?_; rintro e w' ⟨rfl, rfl⟩)
  refine (HM.out _ E.out R.out).mono ?_
  rintro e6 w6 ⟨g, A1, c1, rfl, ht, hr1, hb⟩
  have M := Lib.hid hr1
  have T := Lib.hid ht
  clear hr1 ht
  clear cX0 cX1 cX2
  have B := Lib.hid (B.out.trans (hb.mono B.out.size))
  have E := Lib.hid (E.out.below hb)
  have X := Lib.hid ((hb.block _ (bk_lt X.out)).trans X.out)
  have R := Lib.hid ((R.out.keep hb).low)
  have Pl := Lib.hid (Pl.out.keep hb)
  clear hb
  go_upto_region 10 with fail
  obtain ⟨X6, hX⟩ : ∃ X, X = w6.alloc (.cells #[.slice A1 N c1, .int .i64 u, .int .i64 e] 41) := ⟨_, rfl⟩
  rw [← hX]
  have hb : Below w6.heap.size w6 X6 := by rw [hX]; exact bel_new _ _
  have D : Hid (X6.heap[w6.heap.size]? = some (.cells #[.slice A1 N c1, .int .i64 u, .int .i64 e] 41 (0, 0))) := Lib.hid (by rw [hX]; exact heap_alloc_new _ _)
  have B := Lib.hid (B.out.trans (hb.mono B.out.size))
  have E := Lib.hid (E.out.below hb)
  have X := Lib.hid ((hb.block _ (bk_lt X.out)).trans X.out)
  have R := Lib.hid ((R.out.keep hb).low)
  have Pl := Lib.hid (Pl.out.keep hb)
  have M := Lib.hid ((M.out.keep hb).low)
  have T := Lib.hid (T.out.below hb)
  clear hb
  clear hX
  obtain ⟨gD, hg⟩ : ∃ g, g = w6.heap.size := ⟨_, rfl⟩
  rw [← hg] at D ⊢
  clear hg
  obtain ⟨cPl0, cPl1, cPl2, cPl3, cPl4, cPl5, cPl6, cPl7⟩ := Pl.out.all
  go_wp2_with fail
  refine (HDo.out _).mono ?_
  rintro e7 w7 ⟨rfl, hb⟩
  clear cPl0 cPl1 cPl2 cPl3 cPl4 cPl5 cPl6 cPl7
  have B := Lib.hid (B.out.trans (hb.mono B.out.size))
  have E := Lib.hid (E.out.below hb)
  have X := Lib.hid ((hb.block _ (bk_lt X.out)).trans X.out)
  have R := Lib.hid ((R.out.keep hb).low)
  have Pl := Lib.hid (Pl.out.keep hb)
  have M := Lib.hid ((M.out.keep hb).low)
  have T := Lib.hid (T.out.below hb)
  have D := Lib.hid ((hb.block _ (bk_lt D.out)).trans D.out)
  clear hb
  go_wp2_with fail
  refine (HSp.out _).mono ?_
  rintro e8 w8 ⟨rfl, hb⟩
  have B := Lib.hid (B.out.trans (hb.mono B.out.size))
  have E := Lib.hid (E.out.below hb)
  have X := Lib.hid ((hb.block _ (bk_lt X.out)).trans X.out)
  have R := Lib.hid ((R.out.keep hb).low)
  have Pl := Lib.hid (Pl.out.keep hb)
  have M := Lib.hid ((M.out.keep hb).low)
  have T := Lib.hid (T.out.below hb)
  have D := Lib.hid ((hb.block _ (bk_lt D.out)).trans D.out)
  clear hb
  have cD0 := bk_cell D.out 0
  have cD1 := bk_cell D.out 1
  have cD2 := bk_cell D.out 2
  go_wp2_with fail
  refine (HHa.out _ _ _ M.out).mono ?_
  rintro e9 w9 ⟨rfl, hb⟩
  clear cD0 cD1 cD2
  have B := Lib.hid (B.out.trans (hb.mono B.out.size))
  have E := Lib.hid (E.out.below hb)
  have X := Lib.hid ((hb.block _ (bk_lt X.out)).trans X.out)
  have R := Lib.hid ((R.out.keep hb).low)
  have Pl := Lib.hid (Pl.out.keep hb)
  have M := Lib.hid ((M.out.keep hb).low)
  have T := Lib.hid (T.out.below hb)
  have D := Lib.hid ((hb.block _ (bk_lt D.out)).trans D.out)
  clear hb
  obtain ⟨cPl0, cPl1, cPl2, cPl3, cPl4, cPl5, cPl6, cPl7⟩ := Pl.out.all
  go_wp2_with fail
  refine (HLi.out _ _ _ E.out T.out).mono ?_
  rintro e10 w10 ⟨rfl, hb⟩
  clear cPl0 cPl1 cPl2 cPl3 cPl4 cPl5 cPl6 cPl7
  have B := Lib.hid (B.out.trans (hb.mono B.out.size))
  have E := Lib.hid (E.out.below hb)
  have X := Lib.hid ((hb.block _ (bk_lt X.out)).trans X.out)
  have R := Lib.hid ((R.out.keep hb).low)
  have Pl := Lib.hid (Pl.out.keep hb)
  have M := Lib.hid ((M.out.keep hb).low)
  have T := Lib.hid (T.out.below hb)
  have D := Lib.hid ((hb.block _ (bk_lt D.out)).trans D.out)
  clear hb
  obtain ⟨cPl0, cPl1, cPl2, cPl3, cPl4, cPl5, cPl6, cPl7⟩ := Pl.out.all
  go_wp2_with (go_at_call 13; with_reducible refine (num_any _ _ EL.out.1 EL.out.2).mono ?_; rintro e w' ⟨rfl, rfl⟩)
  refine (HTa.out _ _ _ E.out T.out).mono ?_
  rintro e11 w11 ⟨rfl, hb⟩
  clear cPl0 cPl1 cPl2 cPl3 cPl4 cPl5 cPl6 cPl7
  have B := Lib.hid (B.out.trans (hb.mono B.out.size))
  have E := Lib.hid (E.out.below hb)
  have X := Lib.hid ((hb.block _ (bk_lt X.out)).trans X.out)
  have R := Lib.hid ((R.out.keep hb).low)
  have Pl := Lib.hid (Pl.out.keep hb)
  have M := Lib.hid ((M.out.keep hb).low)
  have T := Lib.hid (T.out.below hb)
  have D := Lib.hid ((hb.block _ (bk_lt D.out)).trans D.out)
  clear hb
  go_upto_region 18 with fail
  have cD0 := bk_cell D.out 0
  have cD1 := bk_cell D.out 1
  have cD2 := bk_cell D.out 2
  obtain ⟨cPl0, cPl1, cPl2, cPl3, cPl4, cPl5, cPl6, cPl7⟩ := Pl.out.all
  have HS9 : Hid (∀ W, Kq w11 W → ((W.cell? ⟨gD, 0, none⟩ = some (.slice A1 N c1) ∧ W.cell? ⟨gD, 1, none⟩ = some (.int .i64 u) ∧ W.cell? ⟨gD, 2, none⟩ = some (.int .i64 e)) ∧ W.cell? ⟨w.heap.size + 1, 0, none⟩ = some (.int .i64 l.y) ∧ W.cell? ⟨w.heap.size + 1, 1, none⟩ = some (.int .i64 l.m) ∧ W.cell? ⟨w.heap.size + 1, 2, none⟩ = some (.int .i64 l.d) ∧ W.cell? ⟨w.heap.size + 1, 3, none⟩ = some (.int .i64 l.h) ∧ W.cell? ⟨w.heap.size + 1, 4, none⟩ = some (.int .i64 l.i) ∧ W.cell? ⟨w.heap.size + 1, 5, none⟩ = some (.int .i64 l.s) ∧ W.cell? ⟨w.heap.size + 1, 6, none⟩ = some (.int .i64 l.n) ∧ W.cell? ⟨w.heap.size + 1, 7, none⟩ = some (.int .i64 l.o)) ∧ Kq w11 W) := Lib.hid fun W hk => ⟨⟨⟨(hk.bel.cell (p := ⟨_, 0, none⟩) (bk_lt D.out)).trans cD0, (hk.bel.cell (p := ⟨_, 1, none⟩) (bk_lt D.out)).trans cD1, (hk.bel.cell (p := ⟨_, 2, none⟩) (bk_lt D.out)).trans cD2⟩, ⟨(hk.bel.cell (p := ⟨_, 0, none⟩) Pl.out.lt).trans cPl0, (hk.bel.cell (p := ⟨_, 1, none⟩) Pl.out.lt).trans cPl1, (hk.bel.cell (p := ⟨_, 2, none⟩) Pl.out.lt).trans cPl2, (hk.bel.cell (p := ⟨_, 3, none⟩) Pl.out.lt).trans cPl3, (hk.bel.cell (p := ⟨_, 4, none⟩) Pl.out.lt).trans cPl4, (hk.bel.cell (p := ⟨_, 5, none⟩) Pl.out.lt).trans cPl5, (hk.bel.cell (p := ⟨_, 6, none⟩) Pl.out.lt).trans cPl6, (hk.bel.cell (p := ⟨_, 7, none⟩) Pl.out.lt).trans cPl7⟩⟩, hk⟩
  have hKD : Kq w11 w11.drew := ⟨(Below.refl _ w11).drew⟩
  go_region_held3 (fun W => ((W.cell? ⟨gD, 0, none⟩ = some (.slice A1 N c1) ∧ W.cell? ⟨gD, 1, none⟩ = some (.int .i64 u) ∧ W.cell? ⟨gD, 2, none⟩ = some (.int .i64 e)) ∧ W.cell? ⟨w.heap.size + 1, 0, none⟩ = some (.int .i64 l.y) ∧ W.cell? ⟨w.heap.size + 1, 1, none⟩ = some (.int .i64 l.m) ∧ W.cell? ⟨w.heap.size + 1, 2, none⟩ = some (.int .i64 l.d) ∧ W.cell? ⟨w.heap.size + 1, 3, none⟩ = some (.int .i64 l.h) ∧ W.cell? ⟨w.heap.size + 1, 4, none⟩ = some (.int .i64 l.i) ∧ W.cell? ⟨w.heap.size + 1, 5, none⟩ = some (.int .i64 l.s) ∧ W.cell? ⟨w.heap.size + 1, 6, none⟩ = some (.int .i64 l.n) ∧ W.cell? ⟨w.heap.size + 1, 7, none⟩ = some (.int .i64 l.o)) ∧ Kq w11 W)
    (exact HS9.out _ (by assumption))
    (first
      | (go_at_call 12; go_split_ands; refine (ldoc_any l _).mono ?_; rintro ed wd ⟨rfl, hq⟩; have hkd : Kq w11 wd := Kq.step (by assumption) hq; clear hq)
      | (go_at_call 20; go_split_ands; refine (HRt.out _ _ _ ((M.out.keep (Kq.bel (W0 := w11) (by assumption))).low)).mono ?_; rintro et wt ⟨rfl, hq⟩; have hkt : Kq w11 wt := Kq.step (by assumption) hq; clear hq))
  clear cD0 cD1 cD2 cPl0 cPl1 cPl2 cPl3 cPl4 cPl5 cPl6 cPl7
  have hb := Kq.bel (W0 := w11) (by assumption)
  have B := Lib.hid (B.out.trans (hb.mono B.out.size))
  have E := Lib.hid (E.out.below hb)
  have X := Lib.hid ((hb.block _ (bk_lt X.out)).trans X.out)
  have R := Lib.hid ((R.out.keep hb).low)
  have Pl := Lib.hid (Pl.out.keep hb)
  have M := Lib.hid ((M.out.keep hb).low)
  have T := Lib.hid (T.out.below hb)
  have D := Lib.hid ((hb.block _ (bk_lt D.out)).trans D.out)
  clear hb
  go_wp2_with (go_at_call 13; with_reducible refine (num_any _ _ EB2.out.1 EB2.out.2).mono ?_; rintro e w' ⟨rfl, rfl⟩)
  go_ret
  exact ⟨rfl, B.out⟩

theorem labels12_walk (A : Option Addr) (c : Nat) (L : List Rw) (u e : Int) (l : Lb) (w : World) (he : Ends w) (hr : Rp w.heap.size w A L) (hA : A = none → c = 0 ∧ L = []) (hc : L.length ≤ c) (hm : c ≤ maxLen) :
    Calls Tryd.prog 3 #[.agg #[.slice A L.length c, .int .i64 u, .int .i64 e], .agg l.cells] w fun x w' => x = .returned (.bool true) ∧ Below w.heap.size w w' := by
  by_cases hl : 296 < L.length
  · exact labels12_long A c L u e l w he hr hA hc hm hl
  by_cases hk : lkE L u e = 0
  rotate_left
  · exact labels12_no A c L u e l w he hr hA hc hm hl hk
  by_cases hz : lbE l = 0
  rotate_left
  · exact labels12_bad A c L u e l w he hr hA hc hm hl hk hz
  cases hh : hsB L (lbN l) (lbT l) with
  | true => exact labels12_yes A c L u e l w he hr hA hc hm hl hk hz hh
  | false => exact labels12_leap A c L u e l w he hr hA hc hm hl hk hz hh

end Go.Proofs.YtiamggjebaabkaaDoor
