/- ScaleMachines. Written by gen_scl.py. -/
import Derived.Test.YtiamggjebaabkaaDoorScaJ
namespace Go.Proofs.YtiamggjebaabkaaDoor
open Go.RowKit
set_option linter.unusedVariables false
set_option linter.unusedSimpArgs false

set_option maxRecDepth 100000 in
set_option maxHeartbeats 4000000 in
theorem machines12_long (A : Option Addr) (c : Nat) (L : List Rw) (u e : Int) (t nn o : Int) (w : World) (he : Ends w) (hr : Rp w.heap.size w A L) (hA : A = none → c = 0 ∧ L = []) (hc : L.length ≤ c) (hm : c ≤ maxLen) (ht : fits t) (hlong : 296 < L.length) :
    Calls Tryd.prog 5 #[.agg #[.slice A L.length c, .int .i64 u, .int .i64 e], .int .i64 t, .agg #[.int .i64 nn, .int .i64 o]] w fun x w' => x = .returned (.bool true) ∧ Below w.heap.size w w' := by
  obtain ⟨W0, hW0, b0, g0, gq⟩ := rp_box w A L.length c u e nn o
  have Q := Lib.hid gq
  clear gq
  have B := Lib.hid b0
  have E := Lib.hid (he.below b0)
  have X := Lib.hid g0
  have R := Lib.hid (hr.keep b0).low
  have HAl := Lib.hid (fun W he => alive12_any W he)
  have HLo := Lib.hid (fun W => long10_any A L.length c u e W)
  have q0 := fun op t W x k => guard_ev op t W x k
  have q1 := fun W k => eql_ev W k
  have q2 := fun W k => neq_ev W k
  rw [decide_eq_true hlong] at HLo
  clear hlong
  clear b0 g0 he hr hA hc hm ht
  generalize L.length = N at *
  go_enter Tryd.func5, Tryd.ntmps5
  go_upto_region 1 with fail
  rw [← hW0]; clear hW0
  go_wp2_with fail
  refine (HAl.out _ E.out).mono ?_
  rintro e1 w1 ⟨rfl, hb⟩
  have B := Lib.hid (B.out.trans (hb.mono B.out.size))
  have E := Lib.hid (E.out.below hb)
  have X := Lib.hid ((hb.block _ (bk_lt X.out)).trans X.out)
  have R := Lib.hid ((R.out.keep hb).low)
  have Q := Lib.hid ((hb.block _ (bk_lt Q.out)).trans Q.out)
  clear hb
  have cX0 := bk_cell X.out 0
  have cX1 := bk_cell X.out 1
  have cX2 := bk_cell X.out 2
  go_wp2_with fail
  refine (HLo.out _).mono ?_
  rintro e2 w2 ⟨rfl, hb⟩
  clear cX0 cX1 cX2
  have B := Lib.hid (B.out.trans (hb.mono B.out.size))
  have E := Lib.hid (E.out.below hb)
  have X := Lib.hid ((hb.block _ (bk_lt X.out)).trans X.out)
  have R := Lib.hid ((R.out.keep hb).low)
  have Q := Lib.hid ((hb.block _ (bk_lt Q.out)).trans Q.out)
  clear hb
  have cX0 := bk_cell X.out 0
  have cX1 := bk_cell X.out 1
  have cX2 := bk_cell X.out 2
  go_wp2_with fail
  go_ret
  exact ⟨rfl, B.out⟩

set_option maxRecDepth 100000 in
set_option maxHeartbeats 4000000 in
theorem machines12_no (A : Option Addr) (c : Nat) (L : List Rw) (u e : Int) (t nn o : Int) (w : World) (he : Ends w) (hr : Rp w.heap.size w A L) (hA : A = none → c = 0 ∧ L = []) (hc : L.length ≤ c) (hm : c ≤ maxLen) (ht : fits t) (hshort : ¬ 296 < L.length) (hk : lkE L u e ≠ 0) :
    Calls Tryd.prog 5 #[.agg #[.slice A L.length c, .int .i64 u, .int .i64 e], .int .i64 t, .agg #[.int .i64 nn, .int .i64 o]] w fun x w' => x = .returned (.bool true) ∧ Below w.heap.size w w' := by
  obtain ⟨W0, hW0, b0, g0, gq⟩ := rp_box w A L.length c u e nn o
  have Q := Lib.hid gq
  clear gq
  have B := Lib.hid b0
  have E := Lib.hid (he.below b0)
  have X := Lib.hid g0
  have R := Lib.hid (hr.keep b0).low
  have HAl := Lib.hid (fun W he => alive12_any W he)
  have HLo := Lib.hid (fun W => long10_any A L.length c u e W)
  have q0 := fun op t W x k => guard_ev op t W x k
  have q1 := fun W k => eql_ev W k
  have q2 := fun W k => neq_ev W k
  rw [decide_eq_false hshort] at HLo
  obtain ⟨K, hK⟩ := mk_ex (t / 86400) (t % 86400) nn o
  have HL1 := Lib.hid (fun (W : World) (h1 : Ends W) => frompos_any t nn o W ht h1 hK)
  have HL2 := Lib.hid (fun (W : World) => rfrompos_any t nn o W ht hK)
  change Hid (∀ W, Ends W → Calls _ _ _ W fun e w' => e = .returned (.tuple #[.agg #[.int .i64 K.y, .int .i64 K.m, .int .i64 K.d, .int .i64 K.h, .int .i64 K.i, .int .i64 K.s, .int .i64 K.n, .int .i64 K.o], _]) ∧ _) at HL1
  change Hid (∀ W, Calls _ _ _ W fun e w' => e = .returned (.tuple #[.agg #[.int .i64 K.y, .int .i64 K.m, .int .i64 K.d, .int .i64 K.h, .int .i64 K.i, .int .i64 K.s, .int .i64 K.n, .int .i64 K.o], _]) ∧ _) at HL2
  have HDc := Lib.hid (fun (W : World) => ldoc_any K W)
  change Hid (∀ W, Calls _ _ _ W fun e w' => e = .returned (.agg #[.int .i64 K.y, .int .i64 K.m, .int .i64 K.d, .int .i64 K.h, .int .i64 K.i, .int .i64 K.s, .int .i64 K.n, .int .i64 K.o]) ∧ _) at HDc
  have qd := fun w => eq_doc K.y K.m K.d K.h K.i K.s K.n K.o w
  have EB := Lib.hid (mkE_lo (t / 86400) (t % 86400) nn o)
  have HM := Lib.hid (fun W (he : Ends W) (hr : Rp W.heap.size W A L) => made_no A c L u e W he (by omega) hr hc hm hk)
  have HCk := Lib.hid (fun (A1 : Option Addr) (c1 : Nat) (W : World) (hr1 : Rp W.heap.size W A1 L) => rcheck10_any A1 c1 L u e W hr1 (by omega))
  have hkb : (lkE L u e != 0) = true := bne_iff_ne.mpr hk
  generalize lkE L u e = kk at *
  clear hshort hk hK
  clear b0 g0 he hr hA hc hm ht
  generalize mkE (t / 86400) (t % 86400) nn o = me at *
  generalize L.length = N at *
  go_enter Tryd.func5, Tryd.ntmps5
  go_upto_region 1 with fail
  rw [← hW0]; clear hW0
  go_wp2_with fail
  refine (HAl.out _ E.out).mono ?_
  rintro e1 w1 ⟨rfl, hb⟩
  have B := Lib.hid (B.out.trans (hb.mono B.out.size))
  have E := Lib.hid (E.out.below hb)
  have X := Lib.hid ((hb.block _ (bk_lt X.out)).trans X.out)
  have R := Lib.hid ((R.out.keep hb).low)
  have Q := Lib.hid ((hb.block _ (bk_lt Q.out)).trans Q.out)
  clear hb
  have cX0 := bk_cell X.out 0
  have cX1 := bk_cell X.out 1
  have cX2 := bk_cell X.out 2
  go_wp2_with fail
  refine (HLo.out _).mono ?_
  rintro e2 w2 ⟨rfl, hb⟩
  clear cX0 cX1 cX2
  have B := Lib.hid (B.out.trans (hb.mono B.out.size))
  have E := Lib.hid (E.out.below hb)
  have X := Lib.hid ((hb.block _ (bk_lt X.out)).trans X.out)
  have R := Lib.hid ((R.out.keep hb).low)
  have Q := Lib.hid ((hb.block _ (bk_lt Q.out)).trans Q.out)
  clear hb
  have cX0 := bk_cell X.out 0
  have cX1 := bk_cell X.out 1
  have cX2 := bk_cell X.out 2
  have cq0 := bk_cell Q.out 0
  have cq1 := bk_cell Q.out 1
  go_wp2_with fail
  refine (HL1.out _ E.out).mono ?_
  rintro e3 w3 ⟨rfl, hb⟩
  clear cX0 cX1 cX2 cq0 cq1
  have B := Lib.hid (B.out.trans (hb.mono B.out.size))
  have E := Lib.hid (E.out.below hb)
  have X := Lib.hid ((hb.block _ (bk_lt X.out)).trans X.out)
  have R := Lib.hid ((R.out.keep hb).low)
  have Q := Lib.hid ((hb.block _ (bk_lt Q.out)).trans Q.out)
  clear hb
  go_upto_region 6 with fail
  obtain ⟨X3, hX⟩ : ∃ X, X = w3.alloc (.cells #[.int .i64 K.y, .int .i64 K.m, .int .i64 K.d, .int .i64 K.h, .int .i64 K.i, .int .i64 K.s, .int .i64 K.n, .int .i64 K.o] 26) := ⟨_, rfl⟩
  rw [← hX]
  have hb : Below w3.heap.size w3 X3 := by rw [hX]; exact bel_new _ _
  have Pk : Hid (Lk 26 X3 w3.heap.size K) := Lib.hid (by rw [hX]; exact lk_new _ _ K)
  have B := Lib.hid (B.out.trans (hb.mono B.out.size))
  have E := Lib.hid (E.out.below hb)
  have X := Lib.hid ((hb.block _ (bk_lt X.out)).trans X.out)
  have R := Lib.hid ((R.out.keep hb).low)
  have Q := Lib.hid ((hb.block _ (bk_lt Q.out)).trans Q.out)
  clear hb
  clear hX
  obtain ⟨gPk, hg⟩ : ∃ g, g = w3.heap.size := ⟨_, rfl⟩
  rw [← hg] at Pk ⊢
  clear hg
  have cq0 := bk_cell Q.out 0
  have cq1 := bk_cell Q.out 1
  go_wp2_with fail
  refine (HL2.out _).mono ?_
  rintro e4 w4 ⟨rfl, hb⟩
  clear cq0 cq1
  have B := Lib.hid (B.out.trans (hb.mono B.out.size))
  have E := Lib.hid (E.out.below hb)
  have X := Lib.hid ((hb.block _ (bk_lt X.out)).trans X.out)
  have R := Lib.hid ((R.out.keep hb).low)
  have Q := Lib.hid ((hb.block _ (bk_lt Q.out)).trans Q.out)
  have Pk := Lib.hid (Pk.out.keep hb)
  clear hb
  go_upto_region 7 with fail
  obtain ⟨X4, hX⟩ : ∃ X, X = w4.alloc (.cells #[.int .i64 K.y, .int .i64 K.m, .int .i64 K.d, .int .i64 K.h, .int .i64 K.i, .int .i64 K.s, .int .i64 K.n, .int .i64 K.o] 35) := ⟨_, rfl⟩
  rw [← hX]
  have hb : Below w4.heap.size w4 X4 := by rw [hX]; exact bel_new _ _
  have Pw : Hid (Lk 35 X4 w4.heap.size K) := Lib.hid (by rw [hX]; exact lk_new _ _ K)
  have B := Lib.hid (B.out.trans (hb.mono B.out.size))
  have E := Lib.hid (E.out.below hb)
  have X := Lib.hid ((hb.block _ (bk_lt X.out)).trans X.out)
  have R := Lib.hid ((R.out.keep hb).low)
  have Q := Lib.hid ((hb.block _ (bk_lt Q.out)).trans Q.out)
  have Pk := Lib.hid (Pk.out.keep hb)
  clear hb
  clear hX
  obtain ⟨gPw, hg⟩ : ∃ g, g = w4.heap.size := ⟨_, rfl⟩
  rw [← hg] at Pw ⊢
  clear hg
  go_upto_region 7 with fail
  obtain ⟨cPk0, cPk1, cPk2, cPk3, cPk4, cPk5, cPk6, cPk7⟩ := Pk.out.all
  obtain ⟨cPw0, cPw1, cPw2, cPw3, cPw4, cPw5, cPw6, cPw7⟩ := Pw.out.all
  have HS9 : Hid (∀ W, Kq X4 W → ((W.cell? ⟨gPk, 0, none⟩ = some (.int .i64 K.y) ∧ W.cell? ⟨gPk, 1, none⟩ = some (.int .i64 K.m) ∧ W.cell? ⟨gPk, 2, none⟩ = some (.int .i64 K.d) ∧ W.cell? ⟨gPk, 3, none⟩ = some (.int .i64 K.h) ∧ W.cell? ⟨gPk, 4, none⟩ = some (.int .i64 K.i) ∧ W.cell? ⟨gPk, 5, none⟩ = some (.int .i64 K.s) ∧ W.cell? ⟨gPk, 6, none⟩ = some (.int .i64 K.n) ∧ W.cell? ⟨gPk, 7, none⟩ = some (.int .i64 K.o)) ∧ W.cell? ⟨gPw, 0, none⟩ = some (.int .i64 K.y) ∧ W.cell? ⟨gPw, 1, none⟩ = some (.int .i64 K.m) ∧ W.cell? ⟨gPw, 2, none⟩ = some (.int .i64 K.d) ∧ W.cell? ⟨gPw, 3, none⟩ = some (.int .i64 K.h) ∧ W.cell? ⟨gPw, 4, none⟩ = some (.int .i64 K.i) ∧ W.cell? ⟨gPw, 5, none⟩ = some (.int .i64 K.s) ∧ W.cell? ⟨gPw, 6, none⟩ = some (.int .i64 K.n) ∧ W.cell? ⟨gPw, 7, none⟩ = some (.int .i64 K.o)) ∧ Kq X4 W) := Lib.hid fun W hk => ⟨⟨⟨(hk.bel.cell (p := ⟨_, 0, none⟩) Pk.out.lt).trans cPk0, (hk.bel.cell (p := ⟨_, 1, none⟩) Pk.out.lt).trans cPk1, (hk.bel.cell (p := ⟨_, 2, none⟩) Pk.out.lt).trans cPk2, (hk.bel.cell (p := ⟨_, 3, none⟩) Pk.out.lt).trans cPk3, (hk.bel.cell (p := ⟨_, 4, none⟩) Pk.out.lt).trans cPk4, (hk.bel.cell (p := ⟨_, 5, none⟩) Pk.out.lt).trans cPk5, (hk.bel.cell (p := ⟨_, 6, none⟩) Pk.out.lt).trans cPk6, (hk.bel.cell (p := ⟨_, 7, none⟩) Pk.out.lt).trans cPk7⟩, ⟨(hk.bel.cell (p := ⟨_, 0, none⟩) Pw.out.lt).trans cPw0, (hk.bel.cell (p := ⟨_, 1, none⟩) Pw.out.lt).trans cPw1, (hk.bel.cell (p := ⟨_, 2, none⟩) Pw.out.lt).trans cPw2, (hk.bel.cell (p := ⟨_, 3, none⟩) Pw.out.lt).trans cPw3, (hk.bel.cell (p := ⟨_, 4, none⟩) Pw.out.lt).trans cPw4, (hk.bel.cell (p := ⟨_, 5, none⟩) Pw.out.lt).trans cPw5, (hk.bel.cell (p := ⟨_, 6, none⟩) Pw.out.lt).trans cPw6, (hk.bel.cell (p := ⟨_, 7, none⟩) Pw.out.lt).trans cPw7⟩⟩, hk⟩
  have hKD : Kq X4 X4.drew := ⟨(Below.refl _ X4).drew⟩
  go_region_held3 (fun W => ((W.cell? ⟨gPk, 0, none⟩ = some (.int .i64 K.y) ∧ W.cell? ⟨gPk, 1, none⟩ = some (.int .i64 K.m) ∧ W.cell? ⟨gPk, 2, none⟩ = some (.int .i64 K.d) ∧ W.cell? ⟨gPk, 3, none⟩ = some (.int .i64 K.h) ∧ W.cell? ⟨gPk, 4, none⟩ = some (.int .i64 K.i) ∧ W.cell? ⟨gPk, 5, none⟩ = some (.int .i64 K.s) ∧ W.cell? ⟨gPk, 6, none⟩ = some (.int .i64 K.n) ∧ W.cell? ⟨gPk, 7, none⟩ = some (.int .i64 K.o)) ∧ W.cell? ⟨gPw, 0, none⟩ = some (.int .i64 K.y) ∧ W.cell? ⟨gPw, 1, none⟩ = some (.int .i64 K.m) ∧ W.cell? ⟨gPw, 2, none⟩ = some (.int .i64 K.d) ∧ W.cell? ⟨gPw, 3, none⟩ = some (.int .i64 K.h) ∧ W.cell? ⟨gPw, 4, none⟩ = some (.int .i64 K.i) ∧ W.cell? ⟨gPw, 5, none⟩ = some (.int .i64 K.s) ∧ W.cell? ⟨gPw, 6, none⟩ = some (.int .i64 K.n) ∧ W.cell? ⟨gPw, 7, none⟩ = some (.int .i64 K.o)) ∧ Kq X4 W)
    (exact HS9.out _ (by assumption))
    (first
      | (go_at_call 12; go_split_ands; refine (HDc.out _).mono ?_; rintro ed wd ⟨rfl, hq⟩; have hkd : Kq X4 wd := Kq.step (by assumption) hq; clear hq)
      | (go_at_call 13; go_split_ands; with_reducible refine (num_any _ _ EB.out.1 EB.out.2).mono ?_; rintro en wn ⟨rfl, rfl⟩))
  clear cPk0 cPk1 cPk2 cPk3 cPk4 cPk5 cPk6 cPk7 cPw0 cPw1 cPw2 cPw3 cPw4 cPw5 cPw6 cPw7
  have hb := Kq.bel (W0 := X4) (by assumption)
  have B := Lib.hid (B.out.trans (hb.mono B.out.size))
  have E := Lib.hid (E.out.below hb)
  have X := Lib.hid ((hb.block _ (bk_lt X.out)).trans X.out)
  have R := Lib.hid ((R.out.keep hb).low)
  have Q := Lib.hid ((hb.block _ (bk_lt Q.out)).trans Q.out)
  have Pk := Lib.hid (Pk.out.keep hb)
  have Pw := Lib.hid (Pw.out.keep hb)
  clear hb
  have cX0 := bk_cell X.out 0
  have cX1 := bk_cell X.out 1
  have cX2 := bk_cell X.out 2
  go_wp2_with fail
  refine (HM.out _ E.out R.out).mono ?_
  rintro e6 w6 ⟨A1, c1, rfl, hr1, hb⟩
  have M := Lib.hid hr1
  clear hr1
  clear cX0 cX1 cX2
  have B := Lib.hid (B.out.trans (hb.mono B.out.size))
  have E := Lib.hid (E.out.below hb)
  have X := Lib.hid ((hb.block _ (bk_lt X.out)).trans X.out)
  have R := Lib.hid ((R.out.keep hb).low)
  have Q := Lib.hid ((hb.block _ (bk_lt Q.out)).trans Q.out)
  have Pk := Lib.hid (Pk.out.keep hb)
  have Pw := Lib.hid (Pw.out.keep hb)
  clear hb
  go_upto_region 10 with fail
  obtain ⟨X6, hX⟩ : ∃ X, X = w6.alloc (.cells #[.slice A1 N c1, .int .i64 u, .int .i64 e] 41) := ⟨_, rfl⟩
  rw [← hX]
  have hb : Below w6.heap.size w6 X6 := by rw [hX]; exact bel_new _ _
  have D : Hid (X6.heap[w6.heap.size]? = some (.cells #[.slice A1 N c1, .int .i64 u, .int .i64 e] 41 (0, 0))) := Lib.hid (by rw [hX]; exact heap_alloc_new _ _)
  have B := Lib.hid (B.out.trans (hb.mono B.out.size))
  have E := Lib.hid (E.out.below hb)
  have X := Lib.hid ((hb.block _ (bk_lt X.out)).trans X.out)
  have R := Lib.hid ((R.out.keep hb).low)
  have Q := Lib.hid ((hb.block _ (bk_lt Q.out)).trans Q.out)
  have Pk := Lib.hid (Pk.out.keep hb)
  have Pw := Lib.hid (Pw.out.keep hb)
  have M := Lib.hid ((M.out.keep hb).low)
  clear hb
  clear hX
  obtain ⟨gD, hg⟩ : ∃ g, g = w6.heap.size := ⟨_, rfl⟩
  rw [← hg] at D ⊢
  clear hg
  have cD0 := bk_cell D.out 0
  have cD1 := bk_cell D.out 1
  have cD2 := bk_cell D.out 2
  go_wp2_with fail
  refine (HCk.out _ _ _ M.out).mono ?_
  rintro e7 w7 ⟨rfl, hb⟩
  clear cD0 cD1 cD2
  have B := Lib.hid (B.out.trans (hb.mono B.out.size))
  have E := Lib.hid (E.out.below hb)
  have X := Lib.hid ((hb.block _ (bk_lt X.out)).trans X.out)
  have R := Lib.hid ((R.out.keep hb).low)
  have Q := Lib.hid ((hb.block _ (bk_lt Q.out)).trans Q.out)
  have Pk := Lib.hid (Pk.out.keep hb)
  have Pw := Lib.hid (Pw.out.keep hb)
  have M := Lib.hid ((M.out.keep hb).low)
  have D := Lib.hid ((hb.block _ (bk_lt D.out)).trans D.out)
  clear hb
  go_wp2_with fail
  go_ret
  exact ⟨rfl, B.out⟩

set_option maxRecDepth 100000 in
set_option maxHeartbeats 4000000 in
theorem machines12_bad (A : Option Addr) (c : Nat) (L : List Rw) (u e : Int) (t nn o : Int) (w : World) (he : Ends w) (hr : Rp w.heap.size w A L) (hA : A = none → c = 0 ∧ L = []) (hc : L.length ≤ c) (hm : c ≤ maxLen) (ht : fits t) (hshort : ¬ 296 < L.length) (hk : lkE L u e = 0) (hz : mkE (t / 86400) (t % 86400) 0 0 ≠ 0) :
    Calls Tryd.prog 5 #[.agg #[.slice A L.length c, .int .i64 u, .int .i64 e], .int .i64 t, .agg #[.int .i64 nn, .int .i64 o]] w fun x w' => x = .returned (.bool true) ∧ Below w.heap.size w w' := by
  obtain ⟨W0, hW0, b0, g0, gq⟩ := rp_box w A L.length c u e nn o
  have Q := Lib.hid gq
  clear gq
  have B := Lib.hid b0
  have E := Lib.hid (he.below b0)
  have X := Lib.hid g0
  have R := Lib.hid (hr.keep b0).low
  have HAl := Lib.hid (fun W he => alive12_any W he)
  have HLo := Lib.hid (fun W => long10_any A L.length c u e W)
  have q0 := fun op t W x k => guard_ev op t W x k
  have q1 := fun W k => eql_ev W k
  have q2 := fun W k => neq_ev W k
  rw [decide_eq_false hshort] at HLo
  obtain ⟨K, hK⟩ := mk_ex (t / 86400) (t % 86400) nn o
  have HL1 := Lib.hid (fun (W : World) (h1 : Ends W) => frompos_any t nn o W ht h1 hK)
  have HL2 := Lib.hid (fun (W : World) => rfrompos_any t nn o W ht hK)
  change Hid (∀ W, Ends W → Calls _ _ _ W fun e w' => e = .returned (.tuple #[.agg #[.int .i64 K.y, .int .i64 K.m, .int .i64 K.d, .int .i64 K.h, .int .i64 K.i, .int .i64 K.s, .int .i64 K.n, .int .i64 K.o], _]) ∧ _) at HL1
  change Hid (∀ W, Calls _ _ _ W fun e w' => e = .returned (.tuple #[.agg #[.int .i64 K.y, .int .i64 K.m, .int .i64 K.d, .int .i64 K.h, .int .i64 K.i, .int .i64 K.s, .int .i64 K.n, .int .i64 K.o], _]) ∧ _) at HL2
  have HDc := Lib.hid (fun (W : World) => ldoc_any K W)
  change Hid (∀ W, Calls _ _ _ W fun e w' => e = .returned (.agg #[.int .i64 K.y, .int .i64 K.m, .int .i64 K.d, .int .i64 K.h, .int .i64 K.i, .int .i64 K.s, .int .i64 K.n, .int .i64 K.o]) ∧ _) at HDc
  have qd := fun w => eq_doc K.y K.m K.d K.h K.i K.s K.n K.o w
  have EB := Lib.hid (mkE_lo (t / 86400) (t % 86400) nn o)
  have V := (lkE_zero hk).1
  have HM := Lib.hid (fun W (he : Ends W) (hr : Rp W.heap.size W A L) => made_some A c L u e W he (by omega) hr hA hc hm hk)
  obtain ⟨J, hJ⟩ := mk_ex (t / 86400) (t % 86400) 0 0
  have HT := Lib.hid (fun (lo g : Nat) (W : World) (h1 : Ends W) (h2 : Tb lo W g L u e) => taiof_any t ht h1 h2 V hJ)
  have HF := Lib.hid (fun (W : World) => rfrompos_any t 0 0 W ht hJ)
  have HRt := Lib.hid (fun (A1 : Option Addr) (c1 : Nat) (W : World) (hr1 : Rp W.heap.size W A1 L) => rtai12_any A1 c1 L u e J W hr1 V)
  change Hid (∀ W, Calls _ _ _ W fun e w' => e = .returned (.tuple #[.agg #[.int .i64 J.y, .int .i64 J.m, .int .i64 J.d, .int .i64 J.h, .int .i64 J.i, .int .i64 J.s, .int .i64 J.n, .int .i64 J.o], _]) ∧ _) at HF
  unfold toV toE at HT
  rw [if_neg hz, if_neg hz] at HT
  have hzb : (mkE (t / 86400) (t % 86400) 0 0 == 0) = false := beq_eq_false_iff_ne.2 hz
  have ET := Lib.hid (mkE_lo (t / 86400) (t % 86400) 0 0)
  clear hshort hk hz V hK hJ
  clear b0 g0 he hr hA hc hm ht
  generalize mkE (t / 86400) (t % 86400) nn o = me at *
  generalize mkE (t / 86400) (t % 86400) 0 0 = mz at *
  generalize L.length = N at *
  go_enter Tryd.func5, Tryd.ntmps5
  go_upto_region 1 with fail
  rw [← hW0]; clear hW0
  go_wp2_with fail
  refine (HAl.out _ E.out).mono ?_
  rintro e1 w1 ⟨rfl, hb⟩
  have B := Lib.hid (B.out.trans (hb.mono B.out.size))
  have E := Lib.hid (E.out.below hb)
  have X := Lib.hid ((hb.block _ (bk_lt X.out)).trans X.out)
  have R := Lib.hid ((R.out.keep hb).low)
  have Q := Lib.hid ((hb.block _ (bk_lt Q.out)).trans Q.out)
  clear hb
  have cX0 := bk_cell X.out 0
  have cX1 := bk_cell X.out 1
  have cX2 := bk_cell X.out 2
  go_wp2_with fail
  refine (HLo.out _).mono ?_
  rintro e2 w2 ⟨rfl, hb⟩
  clear cX0 cX1 cX2
  have B := Lib.hid (B.out.trans (hb.mono B.out.size))
  have E := Lib.hid (E.out.below hb)
  have X := Lib.hid ((hb.block _ (bk_lt X.out)).trans X.out)
  have R := Lib.hid ((R.out.keep hb).low)
  have Q := Lib.hid ((hb.block _ (bk_lt Q.out)).trans Q.out)
  clear hb
  have cX0 := bk_cell X.out 0
  have cX1 := bk_cell X.out 1
  have cX2 := bk_cell X.out 2
  have cq0 := bk_cell Q.out 0
  have cq1 := bk_cell Q.out 1
  go_wp2_with fail
  refine (HL1.out _ E.out).mono ?_
  rintro e3 w3 ⟨rfl, hb⟩
  clear cX0 cX1 cX2 cq0 cq1
  have B := Lib.hid (B.out.trans (hb.mono B.out.size))
  have E := Lib.hid (E.out.below hb)
  have X := Lib.hid ((hb.block _ (bk_lt X.out)).trans X.out)
  have R := Lib.hid ((R.out.keep hb).low)
  have Q := Lib.hid ((hb.block _ (bk_lt Q.out)).trans Q.out)
  clear hb
  go_upto_region 6 with fail
  obtain ⟨X3, hX⟩ : ∃ X, X = w3.alloc (.cells #[.int .i64 K.y, .int .i64 K.m, .int .i64 K.d, .int .i64 K.h, .int .i64 K.i, .int .i64 K.s, .int .i64 K.n, .int .i64 K.o] 26) := ⟨_, rfl⟩
  rw [← hX]
  have hb : Below w3.heap.size w3 X3 := by rw [hX]; exact bel_new _ _
  have Pk : Hid (Lk 26 X3 w3.heap.size K) := Lib.hid (by rw [hX]; exact lk_new _ _ K)
  have B := Lib.hid (B.out.trans (hb.mono B.out.size))
  have E := Lib.hid (E.out.below hb)
  have X := Lib.hid ((hb.block _ (bk_lt X.out)).trans X.out)
  have R := Lib.hid ((R.out.keep hb).low)
  have Q := Lib.hid ((hb.block _ (bk_lt Q.out)).trans Q.out)
  clear hb
  clear hX
  obtain ⟨gPk, hg⟩ : ∃ g, g = w3.heap.size := ⟨_, rfl⟩
  rw [← hg] at Pk ⊢
  clear hg
  have cq0 := bk_cell Q.out 0
  have cq1 := bk_cell Q.out 1
  go_wp2_with fail
  refine (HL2.out _).mono ?_
  rintro e4 w4 ⟨rfl, hb⟩
  clear cq0 cq1
  have B := Lib.hid (B.out.trans (hb.mono B.out.size))
  have E := Lib.hid (E.out.below hb)
  have X := Lib.hid ((hb.block _ (bk_lt X.out)).trans X.out)
  have R := Lib.hid ((R.out.keep hb).low)
  have Q := Lib.hid ((hb.block _ (bk_lt Q.out)).trans Q.out)
  have Pk := Lib.hid (Pk.out.keep hb)
  clear hb
  go_upto_region 7 with fail
  obtain ⟨X4, hX⟩ : ∃ X, X = w4.alloc (.cells #[.int .i64 K.y, .int .i64 K.m, .int .i64 K.d, .int .i64 K.h, .int .i64 K.i, .int .i64 K.s, .int .i64 K.n, .int .i64 K.o] 35) := ⟨_, rfl⟩
  rw [← hX]
  have hb : Below w4.heap.size w4 X4 := by rw [hX]; exact bel_new _ _
  have Pw : Hid (Lk 35 X4 w4.heap.size K) := Lib.hid (by rw [hX]; exact lk_new _ _ K)
  have B := Lib.hid (B.out.trans (hb.mono B.out.size))
  have E := Lib.hid (E.out.below hb)
  have X := Lib.hid ((hb.block _ (bk_lt X.out)).trans X.out)
  have R := Lib.hid ((R.out.keep hb).low)
  have Q := Lib.hid ((hb.block _ (bk_lt Q.out)).trans Q.out)
  have Pk := Lib.hid (Pk.out.keep hb)
  clear hb
  clear hX
  obtain ⟨gPw, hg⟩ : ∃ g, g = w4.heap.size := ⟨_, rfl⟩
  rw [← hg] at Pw ⊢
  clear hg
  go_upto_region 7 with fail
  obtain ⟨cPk0, cPk1, cPk2, cPk3, cPk4, cPk5, cPk6, cPk7⟩ := Pk.out.all
  obtain ⟨cPw0, cPw1, cPw2, cPw3, cPw4, cPw5, cPw6, cPw7⟩ := Pw.out.all
  have HS9 : Hid (∀ W, Kq X4 W → ((W.cell? ⟨gPk, 0, none⟩ = some (.int .i64 K.y) ∧ W.cell? ⟨gPk, 1, none⟩ = some (.int .i64 K.m) ∧ W.cell? ⟨gPk, 2, none⟩ = some (.int .i64 K.d) ∧ W.cell? ⟨gPk, 3, none⟩ = some (.int .i64 K.h) ∧ W.cell? ⟨gPk, 4, none⟩ = some (.int .i64 K.i) ∧ W.cell? ⟨gPk, 5, none⟩ = some (.int .i64 K.s) ∧ W.cell? ⟨gPk, 6, none⟩ = some (.int .i64 K.n) ∧ W.cell? ⟨gPk, 7, none⟩ = some (.int .i64 K.o)) ∧ W.cell? ⟨gPw, 0, none⟩ = some (.int .i64 K.y) ∧ W.cell? ⟨gPw, 1, none⟩ = some (.int .i64 K.m) ∧ W.cell? ⟨gPw, 2, none⟩ = some (.int .i64 K.d) ∧ W.cell? ⟨gPw, 3, none⟩ = some (.int .i64 K.h) ∧ W.cell? ⟨gPw, 4, none⟩ = some (.int .i64 K.i) ∧ W.cell? ⟨gPw, 5, none⟩ = some (.int .i64 K.s) ∧ W.cell? ⟨gPw, 6, none⟩ = some (.int .i64 K.n) ∧ W.cell? ⟨gPw, 7, none⟩ = some (.int .i64 K.o)) ∧ Kq X4 W) := Lib.hid fun W hk => ⟨⟨⟨(hk.bel.cell (p := ⟨_, 0, none⟩) Pk.out.lt).trans cPk0, (hk.bel.cell (p := ⟨_, 1, none⟩) Pk.out.lt).trans cPk1, (hk.bel.cell (p := ⟨_, 2, none⟩) Pk.out.lt).trans cPk2, (hk.bel.cell (p := ⟨_, 3, none⟩) Pk.out.lt).trans cPk3, (hk.bel.cell (p := ⟨_, 4, none⟩) Pk.out.lt).trans cPk4, (hk.bel.cell (p := ⟨_, 5, none⟩) Pk.out.lt).trans cPk5, (hk.bel.cell (p := ⟨_, 6, none⟩) Pk.out.lt).trans cPk6, (hk.bel.cell (p := ⟨_, 7, none⟩) Pk.out.lt).trans cPk7⟩, ⟨(hk.bel.cell (p := ⟨_, 0, none⟩) Pw.out.lt).trans cPw0, (hk.bel.cell (p := ⟨_, 1, none⟩) Pw.out.lt).trans cPw1, (hk.bel.cell (p := ⟨_, 2, none⟩) Pw.out.lt).trans cPw2, (hk.bel.cell (p := ⟨_, 3, none⟩) Pw.out.lt).trans cPw3, (hk.bel.cell (p := ⟨_, 4, none⟩) Pw.out.lt).trans cPw4, (hk.bel.cell (p := ⟨_, 5, none⟩) Pw.out.lt).trans cPw5, (hk.bel.cell (p := ⟨_, 6, none⟩) Pw.out.lt).trans cPw6, (hk.bel.cell (p := ⟨_, 7, none⟩) Pw.out.lt).trans cPw7⟩⟩, hk⟩
  have hKD : Kq X4 X4.drew := ⟨(Below.refl _ X4).drew⟩
  go_region_held3 (fun W => ((W.cell? ⟨gPk, 0, none⟩ = some (.int .i64 K.y) ∧ W.cell? ⟨gPk, 1, none⟩ = some (.int .i64 K.m) ∧ W.cell? ⟨gPk, 2, none⟩ = some (.int .i64 K.d) ∧ W.cell? ⟨gPk, 3, none⟩ = some (.int .i64 K.h) ∧ W.cell? ⟨gPk, 4, none⟩ = some (.int .i64 K.i) ∧ W.cell? ⟨gPk, 5, none⟩ = some (.int .i64 K.s) ∧ W.cell? ⟨gPk, 6, none⟩ = some (.int .i64 K.n) ∧ W.cell? ⟨gPk, 7, none⟩ = some (.int .i64 K.o)) ∧ W.cell? ⟨gPw, 0, none⟩ = some (.int .i64 K.y) ∧ W.cell? ⟨gPw, 1, none⟩ = some (.int .i64 K.m) ∧ W.cell? ⟨gPw, 2, none⟩ = some (.int .i64 K.d) ∧ W.cell? ⟨gPw, 3, none⟩ = some (.int .i64 K.h) ∧ W.cell? ⟨gPw, 4, none⟩ = some (.int .i64 K.i) ∧ W.cell? ⟨gPw, 5, none⟩ = some (.int .i64 K.s) ∧ W.cell? ⟨gPw, 6, none⟩ = some (.int .i64 K.n) ∧ W.cell? ⟨gPw, 7, none⟩ = some (.int .i64 K.o)) ∧ Kq X4 W)
    (exact HS9.out _ (by assumption))
    (first
      | (go_at_call 12; go_split_ands; refine (HDc.out _).mono ?_; rintro ed wd ⟨rfl, hq⟩; have hkd : Kq X4 wd := Kq.step (by assumption) hq; clear hq)
      | (go_at_call 13; go_split_ands; with_reducible refine (num_any _ _ EB.out.1 EB.out.2).mono ?_; rintro en wn ⟨rfl, rfl⟩))
  clear cPk0 cPk1 cPk2 cPk3 cPk4 cPk5 cPk6 cPk7 cPw0 cPw1 cPw2 cPw3 cPw4 cPw5 cPw6 cPw7
  have hb := Kq.bel (W0 := X4) (by assumption)
  have B := Lib.hid (B.out.trans (hb.mono B.out.size))
  have E := Lib.hid (E.out.below hb)
  have X := Lib.hid ((hb.block _ (bk_lt X.out)).trans X.out)
  have R := Lib.hid ((R.out.keep hb).low)
  have Q := Lib.hid ((hb.block _ (bk_lt Q.out)).trans Q.out)
  have Pk := Lib.hid (Pk.out.keep hb)
  have Pw := Lib.hid (Pw.out.keep hb)
  clear hb
  have cX0 := bk_cell X.out 0
  have cX1 := bk_cell X.out 1
  have cX2 := bk_cell X.out 2
  go_wp2_with fail
  refine (HM.out _ E.out R.out).mono ?_
  rintro e6 w6 ⟨g, A1, c1, rfl, ht, hr1, hb⟩
  have M := Lib.hid hr1
  have T := Lib.hid ht
  clear hr1 ht
  clear cX0 cX1 cX2
  have B := Lib.hid (B.out.trans (hb.mono B.out.size))
  have E := Lib.hid (E.out.below hb)
  have X := Lib.hid ((hb.block _ (bk_lt X.out)).trans X.out)
  have R := Lib.hid ((R.out.keep hb).low)
  have Q := Lib.hid ((hb.block _ (bk_lt Q.out)).trans Q.out)
  have Pk := Lib.hid (Pk.out.keep hb)
  have Pw := Lib.hid (Pw.out.keep hb)
  clear hb
  go_upto_region 10 with fail
  obtain ⟨X6, hX⟩ : ∃ X, X = w6.alloc (.cells #[.slice A1 N c1, .int .i64 u, .int .i64 e] 41) := ⟨_, rfl⟩
  rw [← hX]
  have hb : Below w6.heap.size w6 X6 := by rw [hX]; exact bel_new _ _
  have D : Hid (X6.heap[w6.heap.size]? = some (.cells #[.slice A1 N c1, .int .i64 u, .int .i64 e] 41 (0, 0))) := Lib.hid (by rw [hX]; exact heap_alloc_new _ _)
  have B := Lib.hid (B.out.trans (hb.mono B.out.size))
  have E := Lib.hid (E.out.below hb)
  have X := Lib.hid ((hb.block _ (bk_lt X.out)).trans X.out)
  have R := Lib.hid ((R.out.keep hb).low)
  have Q := Lib.hid ((hb.block _ (bk_lt Q.out)).trans Q.out)
  have Pk := Lib.hid (Pk.out.keep hb)
  have Pw := Lib.hid (Pw.out.keep hb)
  have M := Lib.hid ((M.out.keep hb).low)
  have T := Lib.hid (T.out.below hb)
  clear hb
  clear hX
  obtain ⟨gD, hg⟩ : ∃ g, g = w6.heap.size := ⟨_, rfl⟩
  rw [← hg] at D ⊢
  clear hg
  go_wp2_with fail
  refine (HT.out _ _ _ E.out T.out).mono ?_
  rintro e7 w7 ⟨rfl, hb⟩
  have B := Lib.hid (B.out.trans (hb.mono B.out.size))
  have E := Lib.hid (E.out.below hb)
  have X := Lib.hid ((hb.block _ (bk_lt X.out)).trans X.out)
  have R := Lib.hid ((R.out.keep hb).low)
  have Q := Lib.hid ((hb.block _ (bk_lt Q.out)).trans Q.out)
  have Pk := Lib.hid (Pk.out.keep hb)
  have Pw := Lib.hid (Pw.out.keep hb)
  have M := Lib.hid ((M.out.keep hb).low)
  have T := Lib.hid (T.out.below hb)
  have D := Lib.hid ((hb.block _ (bk_lt D.out)).trans D.out)
  clear hb
  go_wp2_with fail
  refine (HF.out _).mono ?_
  rintro e8 w8 ⟨rfl, hb⟩
  have B := Lib.hid (B.out.trans (hb.mono B.out.size))
  have E := Lib.hid (E.out.below hb)
  have X := Lib.hid ((hb.block _ (bk_lt X.out)).trans X.out)
  have R := Lib.hid ((R.out.keep hb).low)
  have Q := Lib.hid ((hb.block _ (bk_lt Q.out)).trans Q.out)
  have Pk := Lib.hid (Pk.out.keep hb)
  have Pw := Lib.hid (Pw.out.keep hb)
  have M := Lib.hid ((M.out.keep hb).low)
  have T := Lib.hid (T.out.below hb)
  have D := Lib.hid ((hb.block _ (bk_lt D.out)).trans D.out)
  clear hb
  go_upto_region 14 with fail
  obtain ⟨X8, hX⟩ : ∃ X, X = w8.alloc (.cells #[.int .i64 J.y, .int .i64 J.m, .int .i64 J.d, .int .i64 J.h, .int .i64 J.i, .int .i64 J.s, .int .i64 J.n, .int .i64 J.o] 35) := ⟨_, rfl⟩
  rw [← hX]
  have hb : Below w8.heap.size w8 X8 := by rw [hX]; exact bel_new _ _
  have Pp : Hid (Lk 35 X8 w8.heap.size J) := Lib.hid (by rw [hX]; exact lk_new _ _ J)
  have B := Lib.hid (B.out.trans (hb.mono B.out.size))
  have E := Lib.hid (E.out.below hb)
  have X := Lib.hid ((hb.block _ (bk_lt X.out)).trans X.out)
  have R := Lib.hid ((R.out.keep hb).low)
  have Q := Lib.hid ((hb.block _ (bk_lt Q.out)).trans Q.out)
  have Pk := Lib.hid (Pk.out.keep hb)
  have Pw := Lib.hid (Pw.out.keep hb)
  have M := Lib.hid ((M.out.keep hb).low)
  have T := Lib.hid (T.out.below hb)
  have D := Lib.hid ((hb.block _ (bk_lt D.out)).trans D.out)
  clear hb
  clear hX
  obtain ⟨gPp, hg⟩ : ∃ g, g = w8.heap.size := ⟨_, rfl⟩
  rw [← hg] at Pp ⊢
  clear hg
  go_wp2_with (go_at_call 13; with_reducible refine (num_any _ _ ET.out.1 ET.out.2).mono ?_; rintro e w' ⟨rfl, rfl⟩)
  go_ret
  exact ⟨rfl, B.out⟩

set_option maxRecDepth 100000 in
set_option maxHeartbeats 4000000 in
theorem machines12_ok (A : Option Addr) (c : Nat) (L : List Rw) (u e : Int) (t nn o : Int) (w : World) (he : Ends w) (hr : Rp w.heap.size w A L) (hA : A = none → c = 0 ∧ L = []) (hc : L.length ≤ c) (hm : c ≤ maxLen) (ht : fits t) (hshort : ¬ 296 < L.length) (hk : lkE L u e = 0) (hz : mkE (t / 86400) (t % 86400) 0 0 = 0) :
    Calls Tryd.prog 5 #[.agg #[.slice A L.length c, .int .i64 u, .int .i64 e], .int .i64 t, .agg #[.int .i64 nn, .int .i64 o]] w fun x w' => x = .returned (.bool true) ∧ Below w.heap.size w w' := by
  obtain ⟨W0, hW0, b0, g0, gq⟩ := rp_box w A L.length c u e nn o
  have Q := Lib.hid gq
  clear gq
  have B := Lib.hid b0
  have E := Lib.hid (he.below b0)
  have X := Lib.hid g0
  have R := Lib.hid (hr.keep b0).low
  have HAl := Lib.hid (fun W he => alive12_any W he)
  have HLo := Lib.hid (fun W => long10_any A L.length c u e W)
  have q0 := fun op t W x k => guard_ev op t W x k
  have q1 := fun W k => eql_ev W k
  have q2 := fun W k => neq_ev W k
  rw [decide_eq_false hshort] at HLo
  obtain ⟨K, hK⟩ := mk_ex (t / 86400) (t % 86400) nn o
  have HL1 := Lib.hid (fun (W : World) (h1 : Ends W) => frompos_any t nn o W ht h1 hK)
  have HL2 := Lib.hid (fun (W : World) => rfrompos_any t nn o W ht hK)
  change Hid (∀ W, Ends W → Calls _ _ _ W fun e w' => e = .returned (.tuple #[.agg #[.int .i64 K.y, .int .i64 K.m, .int .i64 K.d, .int .i64 K.h, .int .i64 K.i, .int .i64 K.s, .int .i64 K.n, .int .i64 K.o], _]) ∧ _) at HL1
  change Hid (∀ W, Calls _ _ _ W fun e w' => e = .returned (.tuple #[.agg #[.int .i64 K.y, .int .i64 K.m, .int .i64 K.d, .int .i64 K.h, .int .i64 K.i, .int .i64 K.s, .int .i64 K.n, .int .i64 K.o], _]) ∧ _) at HL2
  have HDc := Lib.hid (fun (W : World) => ldoc_any K W)
  change Hid (∀ W, Calls _ _ _ W fun e w' => e = .returned (.agg #[.int .i64 K.y, .int .i64 K.m, .int .i64 K.d, .int .i64 K.h, .int .i64 K.i, .int .i64 K.s, .int .i64 K.n, .int .i64 K.o]) ∧ _) at HDc
  have qd := fun w => eq_doc K.y K.m K.d K.h K.i K.s K.n K.o w
  have EB := Lib.hid (mkE_lo (t / 86400) (t % 86400) nn o)
  have V := (lkE_zero hk).1
  have HM := Lib.hid (fun W (he : Ends W) (hr : Rp W.heap.size W A L) => made_some A c L u e W he (by omega) hr hA hc hm hk)
  obtain ⟨J, hJ⟩ := mk_ex (t / 86400) (t % 86400) 0 0
  have HT := Lib.hid (fun (lo g : Nat) (W : World) (h1 : Ends W) (h2 : Tb lo W g L u e) => taiof_any t ht h1 h2 V hJ)
  have HF := Lib.hid (fun (W : World) => rfrompos_any t 0 0 W ht hJ)
  have HRt := Lib.hid (fun (A1 : Option Addr) (c1 : Nat) (W : World) (hr1 : Rp W.heap.size W A1 L) => rtai12_any A1 c1 L u e J W hr1 V)
  change Hid (∀ W, Calls _ _ _ W fun e w' => e = .returned (.tuple #[.agg #[.int .i64 J.y, .int .i64 J.m, .int .i64 J.d, .int .i64 J.h, .int .i64 J.i, .int .i64 J.s, .int .i64 J.n, .int .i64 J.o], _]) ∧ _) at HF
  unfold toV toE at HT
  rw [if_pos hz, if_pos hz] at HT
  rw [hz] at HF
  have ET := Lib.hid (taE_lo L J)
  clear hshort hk hz V hK hJ
  clear b0 g0 he hr hA hc hm ht
  generalize mkE (t / 86400) (t % 86400) nn o = me at *
  generalize taE L J = te at *
  generalize taV L J = tv at *
  generalize L.length = N at *
  go_enter Tryd.func5, Tryd.ntmps5
  go_upto_region 1 with fail
  rw [← hW0]; clear hW0
  go_wp2_with fail
  refine (HAl.out _ E.out).mono ?_
  rintro e1 w1 ⟨rfl, hb⟩
  have B := Lib.hid (B.out.trans (hb.mono B.out.size))
  have E := Lib.hid (E.out.below hb)
  have X := Lib.hid ((hb.block _ (bk_lt X.out)).trans X.out)
  have R := Lib.hid ((R.out.keep hb).low)
  have Q := Lib.hid ((hb.block _ (bk_lt Q.out)).trans Q.out)
  clear hb
  have cX0 := bk_cell X.out 0
  have cX1 := bk_cell X.out 1
  have cX2 := bk_cell X.out 2
  go_wp2_with fail
  refine (HLo.out _).mono ?_
  rintro e2 w2 ⟨rfl, hb⟩
  clear cX0 cX1 cX2
  have B := Lib.hid (B.out.trans (hb.mono B.out.size))
  have E := Lib.hid (E.out.below hb)
  have X := Lib.hid ((hb.block _ (bk_lt X.out)).trans X.out)
  have R := Lib.hid ((R.out.keep hb).low)
  have Q := Lib.hid ((hb.block _ (bk_lt Q.out)).trans Q.out)
  clear hb
  have cX0 := bk_cell X.out 0
  have cX1 := bk_cell X.out 1
  have cX2 := bk_cell X.out 2
  have cq0 := bk_cell Q.out 0
  have cq1 := bk_cell Q.out 1
  go_wp2_with fail
  refine (HL1.out _ E.out).mono ?_
  rintro e3 w3 ⟨rfl, hb⟩
  clear cX0 cX1 cX2 cq0 cq1
  have B := Lib.hid (B.out.trans (hb.mono B.out.size))
  have E := Lib.hid (E.out.below hb)
  have X := Lib.hid ((hb.block _ (bk_lt X.out)).trans X.out)
  have R := Lib.hid ((R.out.keep hb).low)
  have Q := Lib.hid ((hb.block _ (bk_lt Q.out)).trans Q.out)
  clear hb
  go_upto_region 6 with fail
  obtain ⟨X3, hX⟩ : ∃ X, X = w3.alloc (.cells #[.int .i64 K.y, .int .i64 K.m, .int .i64 K.d, .int .i64 K.h, .int .i64 K.i, .int .i64 K.s, .int .i64 K.n, .int .i64 K.o] 26) := ⟨_, rfl⟩
  rw [← hX]
  have hb : Below w3.heap.size w3 X3 := by rw [hX]; exact bel_new _ _
  have Pk : Hid (Lk 26 X3 w3.heap.size K) := Lib.hid (by rw [hX]; exact lk_new _ _ K)
  have B := Lib.hid (B.out.trans (hb.mono B.out.size))
  have E := Lib.hid (E.out.below hb)
  have X := Lib.hid ((hb.block _ (bk_lt X.out)).trans X.out)
  have R := Lib.hid ((R.out.keep hb).low)
  have Q := Lib.hid ((hb.block _ (bk_lt Q.out)).trans Q.out)
  clear hb
  clear hX
  obtain ⟨gPk, hg⟩ : ∃ g, g = w3.heap.size := ⟨_, rfl⟩
  rw [← hg] at Pk ⊢
  clear hg
  have cq0 := bk_cell Q.out 0
  have cq1 := bk_cell Q.out 1
  go_wp2_with fail
  refine (HL2.out _).mono ?_
  rintro e4 w4 ⟨rfl, hb⟩
  clear cq0 cq1
  have B := Lib.hid (B.out.trans (hb.mono B.out.size))
  have E := Lib.hid (E.out.below hb)
  have X := Lib.hid ((hb.block _ (bk_lt X.out)).trans X.out)
  have R := Lib.hid ((R.out.keep hb).low)
  have Q := Lib.hid ((hb.block _ (bk_lt Q.out)).trans Q.out)
  have Pk := Lib.hid (Pk.out.keep hb)
  clear hb
  go_upto_region 7 with fail
  obtain ⟨X4, hX⟩ : ∃ X, X = w4.alloc (.cells #[.int .i64 K.y, .int .i64 K.m, .int .i64 K.d, .int .i64 K.h, .int .i64 K.i, .int .i64 K.s, .int .i64 K.n, .int .i64 K.o] 35) := ⟨_, rfl⟩
  rw [← hX]
  have hb : Below w4.heap.size w4 X4 := by rw [hX]; exact bel_new _ _
  have Pw : Hid (Lk 35 X4 w4.heap.size K) := Lib.hid (by rw [hX]; exact lk_new _ _ K)
  have B := Lib.hid (B.out.trans (hb.mono B.out.size))
  have E := Lib.hid (E.out.below hb)
  have X := Lib.hid ((hb.block _ (bk_lt X.out)).trans X.out)
  have R := Lib.hid ((R.out.keep hb).low)
  have Q := Lib.hid ((hb.block _ (bk_lt Q.out)).trans Q.out)
  have Pk := Lib.hid (Pk.out.keep hb)
  clear hb
  clear hX
  obtain ⟨gPw, hg⟩ : ∃ g, g = w4.heap.size := ⟨_, rfl⟩
  rw [← hg] at Pw ⊢
  clear hg
  go_upto_region 7 with fail
  obtain ⟨cPk0, cPk1, cPk2, cPk3, cPk4, cPk5, cPk6, cPk7⟩ := Pk.out.all
  obtain ⟨cPw0, cPw1, cPw2, cPw3, cPw4, cPw5, cPw6, cPw7⟩ := Pw.out.all
  have HS9 : Hid (∀ W, Kq X4 W → ((W.cell? ⟨gPk, 0, none⟩ = some (.int .i64 K.y) ∧ W.cell? ⟨gPk, 1, none⟩ = some (.int .i64 K.m) ∧ W.cell? ⟨gPk, 2, none⟩ = some (.int .i64 K.d) ∧ W.cell? ⟨gPk, 3, none⟩ = some (.int .i64 K.h) ∧ W.cell? ⟨gPk, 4, none⟩ = some (.int .i64 K.i) ∧ W.cell? ⟨gPk, 5, none⟩ = some (.int .i64 K.s) ∧ W.cell? ⟨gPk, 6, none⟩ = some (.int .i64 K.n) ∧ W.cell? ⟨gPk, 7, none⟩ = some (.int .i64 K.o)) ∧ W.cell? ⟨gPw, 0, none⟩ = some (.int .i64 K.y) ∧ W.cell? ⟨gPw, 1, none⟩ = some (.int .i64 K.m) ∧ W.cell? ⟨gPw, 2, none⟩ = some (.int .i64 K.d) ∧ W.cell? ⟨gPw, 3, none⟩ = some (.int .i64 K.h) ∧ W.cell? ⟨gPw, 4, none⟩ = some (.int .i64 K.i) ∧ W.cell? ⟨gPw, 5, none⟩ = some (.int .i64 K.s) ∧ W.cell? ⟨gPw, 6, none⟩ = some (.int .i64 K.n) ∧ W.cell? ⟨gPw, 7, none⟩ = some (.int .i64 K.o)) ∧ Kq X4 W) := Lib.hid fun W hk => ⟨⟨⟨(hk.bel.cell (p := ⟨_, 0, none⟩) Pk.out.lt).trans cPk0, (hk.bel.cell (p := ⟨_, 1, none⟩) Pk.out.lt).trans cPk1, (hk.bel.cell (p := ⟨_, 2, none⟩) Pk.out.lt).trans cPk2, (hk.bel.cell (p := ⟨_, 3, none⟩) Pk.out.lt).trans cPk3, (hk.bel.cell (p := ⟨_, 4, none⟩) Pk.out.lt).trans cPk4, (hk.bel.cell (p := ⟨_, 5, none⟩) Pk.out.lt).trans cPk5, (hk.bel.cell (p := ⟨_, 6, none⟩) Pk.out.lt).trans cPk6, (hk.bel.cell (p := ⟨_, 7, none⟩) Pk.out.lt).trans cPk7⟩, ⟨(hk.bel.cell (p := ⟨_, 0, none⟩) Pw.out.lt).trans cPw0, (hk.bel.cell (p := ⟨_, 1, none⟩) Pw.out.lt).trans cPw1, (hk.bel.cell (p := ⟨_, 2, none⟩) Pw.out.lt).trans cPw2, (hk.bel.cell (p := ⟨_, 3, none⟩) Pw.out.lt).trans cPw3, (hk.bel.cell (p := ⟨_, 4, none⟩) Pw.out.lt).trans cPw4, (hk.bel.cell (p := ⟨_, 5, none⟩) Pw.out.lt).trans cPw5, (hk.bel.cell (p := ⟨_, 6, none⟩) Pw.out.lt).trans cPw6, (hk.bel.cell (p := ⟨_, 7, none⟩) Pw.out.lt).trans cPw7⟩⟩, hk⟩
  have hKD : Kq X4 X4.drew := ⟨(Below.refl _ X4).drew⟩
  go_region_held3 (fun W => ((W.cell? ⟨gPk, 0, none⟩ = some (.int .i64 K.y) ∧ W.cell? ⟨gPk, 1, none⟩ = some (.int .i64 K.m) ∧ W.cell? ⟨gPk, 2, none⟩ = some (.int .i64 K.d) ∧ W.cell? ⟨gPk, 3, none⟩ = some (.int .i64 K.h) ∧ W.cell? ⟨gPk, 4, none⟩ = some (.int .i64 K.i) ∧ W.cell? ⟨gPk, 5, none⟩ = some (.int .i64 K.s) ∧ W.cell? ⟨gPk, 6, none⟩ = some (.int .i64 K.n) ∧ W.cell? ⟨gPk, 7, none⟩ = some (.int .i64 K.o)) ∧ W.cell? ⟨gPw, 0, none⟩ = some (.int .i64 K.y) ∧ W.cell? ⟨gPw, 1, none⟩ = some (.int .i64 K.m) ∧ W.cell? ⟨gPw, 2, none⟩ = some (.int .i64 K.d) ∧ W.cell? ⟨gPw, 3, none⟩ = some (.int .i64 K.h) ∧ W.cell? ⟨gPw, 4, none⟩ = some (.int .i64 K.i) ∧ W.cell? ⟨gPw, 5, none⟩ = some (.int .i64 K.s) ∧ W.cell? ⟨gPw, 6, none⟩ = some (.int .i64 K.n) ∧ W.cell? ⟨gPw, 7, none⟩ = some (.int .i64 K.o)) ∧ Kq X4 W)
    (exact HS9.out _ (by assumption))
    (first
      | (go_at_call 12; go_split_ands; refine (HDc.out _).mono ?_; rintro ed wd ⟨rfl, hq⟩; have hkd : Kq X4 wd := Kq.step (by assumption) hq; clear hq)
      | (go_at_call 13; go_split_ands; with_reducible refine (num_any _ _ EB.out.1 EB.out.2).mono ?_; rintro en wn ⟨rfl, rfl⟩))
  clear cPk0 cPk1 cPk2 cPk3 cPk4 cPk5 cPk6 cPk7 cPw0 cPw1 cPw2 cPw3 cPw4 cPw5 cPw6 cPw7
  have hb := Kq.bel (W0 := X4) (by assumption)
  have B := Lib.hid (B.out.trans (hb.mono B.out.size))
  have E := Lib.hid (E.out.below hb)
  have X := Lib.hid ((hb.block _ (bk_lt X.out)).trans X.out)
  have R := Lib.hid ((R.out.keep hb).low)
  have Q := Lib.hid ((hb.block _ (bk_lt Q.out)).trans Q.out)
  have Pk := Lib.hid (Pk.out.keep hb)
  have Pw := Lib.hid (Pw.out.keep hb)
  clear hb
  have cX0 := bk_cell X.out 0
  have cX1 := bk_cell X.out 1
  have cX2 := bk_cell X.out 2
  go_wp2_with fail
  refine (HM.out _ E.out R.out).mono ?_
  rintro e6 w6 ⟨g, A1, c1, rfl, ht, hr1, hb⟩
  have M := Lib.hid hr1
  have T := Lib.hid ht
  clear hr1 ht
  clear cX0 cX1 cX2
  have B := Lib.hid (B.out.trans (hb.mono B.out.size))
  have E := Lib.hid (E.out.below hb)
  have X := Lib.hid ((hb.block _ (bk_lt X.out)).trans X.out)
  have R := Lib.hid ((R.out.keep hb).low)
  have Q := Lib.hid ((hb.block _ (bk_lt Q.out)).trans Q.out)
  have Pk := Lib.hid (Pk.out.keep hb)
  have Pw := Lib.hid (Pw.out.keep hb)
  clear hb
  go_upto_region 10 with fail
  obtain ⟨X6, hX⟩ : ∃ X, X = w6.alloc (.cells #[.slice A1 N c1, .int .i64 u, .int .i64 e] 41) := ⟨_, rfl⟩
  rw [← hX]
  have hb : Below w6.heap.size w6 X6 := by rw [hX]; exact bel_new _ _
  have D : Hid (X6.heap[w6.heap.size]? = some (.cells #[.slice A1 N c1, .int .i64 u, .int .i64 e] 41 (0, 0))) := Lib.hid (by rw [hX]; exact heap_alloc_new _ _)
  have B := Lib.hid (B.out.trans (hb.mono B.out.size))
  have E := Lib.hid (E.out.below hb)
  have X := Lib.hid ((hb.block _ (bk_lt X.out)).trans X.out)
  have R := Lib.hid ((R.out.keep hb).low)
  have Q := Lib.hid ((hb.block _ (bk_lt Q.out)).trans Q.out)
  have Pk := Lib.hid (Pk.out.keep hb)
  have Pw := Lib.hid (Pw.out.keep hb)
  have M := Lib.hid ((M.out.keep hb).low)
  have T := Lib.hid (T.out.below hb)
  clear hb
  clear hX
  obtain ⟨gD, hg⟩ : ∃ g, g = w6.heap.size := ⟨_, rfl⟩
  rw [← hg] at D ⊢
  clear hg
  go_wp2_with fail
  refine (HT.out _ _ _ E.out T.out).mono ?_
  rintro e7 w7 ⟨rfl, hb⟩
  have B := Lib.hid (B.out.trans (hb.mono B.out.size))
  have E := Lib.hid (E.out.below hb)
  have X := Lib.hid ((hb.block _ (bk_lt X.out)).trans X.out)
  have R := Lib.hid ((R.out.keep hb).low)
  have Q := Lib.hid ((hb.block _ (bk_lt Q.out)).trans Q.out)
  have Pk := Lib.hid (Pk.out.keep hb)
  have Pw := Lib.hid (Pw.out.keep hb)
  have M := Lib.hid ((M.out.keep hb).low)
  have T := Lib.hid (T.out.below hb)
  have D := Lib.hid ((hb.block _ (bk_lt D.out)).trans D.out)
  clear hb
  go_wp2_with fail
  refine (HF.out _).mono ?_
  rintro e8 w8 ⟨rfl, hb⟩
  have B := Lib.hid (B.out.trans (hb.mono B.out.size))
  have E := Lib.hid (E.out.below hb)
  have X := Lib.hid ((hb.block _ (bk_lt X.out)).trans X.out)
  have R := Lib.hid ((R.out.keep hb).low)
  have Q := Lib.hid ((hb.block _ (bk_lt Q.out)).trans Q.out)
  have Pk := Lib.hid (Pk.out.keep hb)
  have Pw := Lib.hid (Pw.out.keep hb)
  have M := Lib.hid ((M.out.keep hb).low)
  have T := Lib.hid (T.out.below hb)
  have D := Lib.hid ((hb.block _ (bk_lt D.out)).trans D.out)
  clear hb
  go_upto_region 14 with fail
  obtain ⟨X8, hX⟩ : ∃ X, X = w8.alloc (.cells #[.int .i64 J.y, .int .i64 J.m, .int .i64 J.d, .int .i64 J.h, .int .i64 J.i, .int .i64 J.s, .int .i64 J.n, .int .i64 J.o] 35) := ⟨_, rfl⟩
  rw [← hX]
  have hb : Below w8.heap.size w8 X8 := by rw [hX]; exact bel_new _ _
  have Pp : Hid (Lk 35 X8 w8.heap.size J) := Lib.hid (by rw [hX]; exact lk_new _ _ J)
  have B := Lib.hid (B.out.trans (hb.mono B.out.size))
  have E := Lib.hid (E.out.below hb)
  have X := Lib.hid ((hb.block _ (bk_lt X.out)).trans X.out)
  have R := Lib.hid ((R.out.keep hb).low)
  have Q := Lib.hid ((hb.block _ (bk_lt Q.out)).trans Q.out)
  have Pk := Lib.hid (Pk.out.keep hb)
  have Pw := Lib.hid (Pw.out.keep hb)
  have M := Lib.hid ((M.out.keep hb).low)
  have T := Lib.hid (T.out.below hb)
  have D := Lib.hid ((hb.block _ (bk_lt D.out)).trans D.out)
  clear hb
  clear hX
  obtain ⟨gPp, hg⟩ : ∃ g, g = w8.heap.size := ⟨_, rfl⟩
  rw [← hg] at Pp ⊢
  clear hg
  have cD0 := bk_cell D.out 0
  have cD1 := bk_cell D.out 1
  have cD2 := bk_cell D.out 2
  obtain ⟨cPp0, cPp1, cPp2, cPp3, cPp4, cPp5, cPp6, cPp7⟩ := Pp.out.all
  go_wp2_with fail
  refine (HRt.out _ _ _ M.out).mono ?_
  rintro e9 w9 ⟨rfl, hb⟩
  clear cD0 cD1 cD2 cPp0 cPp1 cPp2 cPp3 cPp4 cPp5 cPp6 cPp7
  have B := Lib.hid (B.out.trans (hb.mono B.out.size))
  have E := Lib.hid (E.out.below hb)
  have X := Lib.hid ((hb.block _ (bk_lt X.out)).trans X.out)
  have R := Lib.hid ((R.out.keep hb).low)
  have Q := Lib.hid ((hb.block _ (bk_lt Q.out)).trans Q.out)
  have Pk := Lib.hid (Pk.out.keep hb)
  have Pw := Lib.hid (Pw.out.keep hb)
  have M := Lib.hid ((M.out.keep hb).low)
  have T := Lib.hid (T.out.below hb)
  have D := Lib.hid ((hb.block _ (bk_lt D.out)).trans D.out)
  have Pp := Lib.hid (Pp.out.keep hb)
  clear hb
  go_wp2_with (go_at_call 13; with_reducible refine (num_any _ _ ET.out.1 ET.out.2).mono ?_; rintro e w' ⟨rfl, rfl⟩)
  go_ret
  exact ⟨rfl, B.out⟩

theorem machines12_walk (A : Option Addr) (c : Nat) (L : List Rw) (u e : Int) (t nn o : Int) (ht : fits t) (w : World) (he : Ends w) (hr : Rp w.heap.size w A L) (hA : A = none → c = 0 ∧ L = []) (hc : L.length ≤ c) (hm : c ≤ maxLen) :
    Calls Tryd.prog 5 #[.agg #[.slice A L.length c, .int .i64 u, .int .i64 e], .int .i64 t, .agg #[.int .i64 nn, .int .i64 o]] w fun x w' => x = .returned (.bool true) ∧ Below w.heap.size w w' := by
  by_cases hl : 296 < L.length
  · exact machines12_long A c L u e t nn o w he hr hA hc hm ht hl
  by_cases hk : lkE L u e = 0
  rotate_left
  · exact machines12_no A c L u e t nn o w he hr hA hc hm ht hl hk
  by_cases hz : mkE (t / 86400) (t % 86400) 0 0 = 0
  · exact machines12_ok A c L u e t nn o w he hr hA hc hm ht hl hk hz
  · exact machines12_bad A c L u e t nn o w he hr hA hc hm ht hl hk hz

end Go.Proofs.YtiamggjebaabkaaDoor
