/- Merged: ListAT. -/
import Derived.Test.YtiamggjebaabkaaGreatDoorGListBack48
namespace Go.Proofs.YtiamggjebaabkaaGreatDoor
open Go.RowKit
set_option linter.unusedVariables false
set_option linter.unusedSimpArgs false

theorem raw_new11 (w : World) (A : Option Addr) (n c : Nat) (u e : Int) : ∃ W0, W0 = w.alloc (.cells #[.slice A n c, .int .i64 u, .int .i64 e] 44) ∧ Below w.heap.size w W0 ∧ W0.heap.size = w.heap.size + 1 ∧ W0.heap[w.heap.size]? = some (.cells #[.slice A n c, .int .i64 u, .int .i64 e] 44 (0, 0)) := ⟨_, rfl, bel_box w _, by simp, heap_alloc_new w _⟩
set_option maxHeartbeats 1000000 in
theorem long11_any (A : Option Addr) (n c : Nat) (u e : Int) (w : World) : Calls Tryz.prog 14 #[.agg #[.slice A n c, .int .i64 u, .int .i64 e]] w fun x w' => x = .returned (.bool (decide (296 < n))) ∧ Below w.heap.size w w' := by
  obtain ⟨W0, hW0, b0, s0, g0⟩ := raw_new11 w A n c u e
  have c0 := bk_cell g0 0; have c1 := bk_cell g0 1; have c2 := bk_cell g0 2
  have HB := Lib.hid b0
  clear b0 s0 g0
  by_cases h : 296 < n
  · have hz : (296 : Int) < (n : Int) := by omega
    rw [decide_eq_true h]
    clear h
    go_enter Tryz.func14, Tryz.ntmps14
    go_upto_region 1 with fail
    rw [← hW0]; clear hW0
    go_wp2_with fail
    go_ret
    exact ⟨rfl, HB.out⟩
  · have hz : ¬ (296 : Int) < (n : Int) := by omega
    rw [decide_eq_false h]
    clear h
    go_enter Tryz.func14, Tryz.ntmps14
    go_upto_region 1 with fail
    rw [← hW0]; clear hW0
    go_wp2_with fail
    go_ret
    exact ⟨rfl, HB.out⟩

set_option maxRecDepth 100000 in
set_option maxHeartbeats 4000000 in
theorem lback11_long (A : Option Addr) (c : Nat) (L : List Rw) (u e : Int) (t : ByteArray) (w : World) (hs : S11 w) (hr : Rp w.heap.size w A L) (hA : A = none → c = 0 ∧ L = []) (hc : L.length ≤ c) (hm : c ≤ maxLen) (hl : 296 < L.length) :
    Calls Tryz.prog 5 #[.agg #[.slice A L.length c, .int .i64 u, .int .i64 e], .string t] w fun x w' => x = .returned (.bool true) ∧ Below w.heap.size w w' := by
  obtain ⟨W0, hW0, b0, s0, g0⟩ := raw_new11 w A L.length c u e
  clear s0
  have B := Lib.hid b0
  have S := Lib.hid (hs.below b0)
  have X := Lib.hid g0
  have R := Lib.hid (hr.keep b0).low
  have HLo := Lib.hid (fun W => long11_any A L.length c u e W)
  have HAl := Lib.hid (fun W hs => alive11_any W hs)
  have q0 := fun op t W x k => guard_ev op t W x k
  have q1 := fun W k => eql_ev W k
  have q2 := fun W k => neq_ev W k
  rw [decide_eq_true hl] at HLo
  clear hl
  clear hs b0 g0 hr hA hc hm
  generalize L.length = N at *
  go_enter Tryz.func5, Tryz.ntmps5
  go_upto_region 1 with fail
  rw [← hW0]; clear hW0
  go_wp2_with fail
  refine (HAl.out _ S.out).mono ?_
  rintro e1 w1 ⟨rfl, hb⟩
  have B := Lib.hid (B.out.trans (hb.mono B.out.size))
  have S := Lib.hid (S.out.below hb)
  have X := Lib.hid ((hb.block _ (bk_lt X.out)).trans X.out)
  have R := Lib.hid ((R.out.keep hb).low)
  clear hb
  have cX0 := bk_cell X.out 0
  have cX1 := bk_cell X.out 1
  have cX2 := bk_cell X.out 2
  go_wp2_with fail
  refine (HLo.out _).mono ?_
  rintro e2 w2 ⟨rfl, hb⟩
  clear cX0 cX1 cX2
  have B := Lib.hid (B.out.trans (hb.mono B.out.size))
  have S := Lib.hid (S.out.below hb)
  have X := Lib.hid ((hb.block _ (bk_lt X.out)).trans X.out)
  have R := Lib.hid ((R.out.keep hb).low)
  clear hb
  have cX0 := bk_cell X.out 0
  have cX1 := bk_cell X.out 1
  have cX2 := bk_cell X.out 2
  go_wp2_with fail
  go_ret
  exact ⟨rfl, B.out⟩

set_option maxRecDepth 100000 in
set_option maxHeartbeats 4000000 in
theorem lback11_far (A : Option Addr) (c : Nat) (L : List Rw) (u e : Int) (t : ByteArray) (w : World) (hs : S11 w) (hr : Rp w.heap.size w A L) (hA : A = none → c = 0 ∧ L = []) (hc : L.length ≤ c) (hm : c ≤ maxLen) (hl : ¬ 296 < L.length) (ht : 3000 < t.size) :
    Calls Tryz.prog 5 #[.agg #[.slice A L.length c, .int .i64 u, .int .i64 e], .string t] w fun x w' => x = .returned (.bool true) ∧ Below w.heap.size w w' := by
  obtain ⟨W0, hW0, b0, s0, g0⟩ := raw_new11 w A L.length c u e
  clear s0
  have B := Lib.hid b0
  have S := Lib.hid (hs.below b0)
  have X := Lib.hid g0
  have R := Lib.hid (hr.keep b0).low
  have HLo := Lib.hid (fun W => long11_any A L.length c u e W)
  have HAl := Lib.hid (fun W hs => alive11_any W hs)
  have q0 := fun op t W x k => guard_ev op t W x k
  have q1 := fun W k => eql_ev W k
  have q2 := fun W k => neq_ev W k
  rw [decide_eq_false hl] at HLo
  have hz : (3000 : Int) < (t.size : Int) := by omega
  clear hl ht
  clear hs b0 g0 hr hA hc hm
  generalize L.length = N at *
  go_enter Tryz.func5, Tryz.ntmps5
  go_upto_region 1 with fail
  rw [← hW0]; clear hW0
  go_wp2_with fail
  refine (HAl.out _ S.out).mono ?_
  rintro e1 w1 ⟨rfl, hb⟩
  have B := Lib.hid (B.out.trans (hb.mono B.out.size))
  have S := Lib.hid (S.out.below hb)
  have X := Lib.hid ((hb.block _ (bk_lt X.out)).trans X.out)
  have R := Lib.hid ((R.out.keep hb).low)
  clear hb
  have cX0 := bk_cell X.out 0
  have cX1 := bk_cell X.out 1
  have cX2 := bk_cell X.out 2
  go_wp2_with fail
  refine (HLo.out _).mono ?_
  rintro e2 w2 ⟨rfl, hb⟩
  clear cX0 cX1 cX2
  have B := Lib.hid (B.out.trans (hb.mono B.out.size))
  have S := Lib.hid (S.out.below hb)
  have X := Lib.hid ((hb.block _ (bk_lt X.out)).trans X.out)
  have R := Lib.hid ((R.out.keep hb).low)
  clear hb
  have cX0 := bk_cell X.out 0
  have cX1 := bk_cell X.out 1
  have cX2 := bk_cell X.out 2
  go_wp2_with fail
  go_ret
  exact ⟨rfl, B.out⟩

set_option maxRecDepth 100000 in
set_option maxHeartbeats 4000000 in
theorem lback11_nn (A : Option Addr) (c : Nat) (L : List Rw) (u e : Int) (t : ByteArray) (w : World) (hs : S11 w) (hr : Rp w.heap.size w A L) (hA : A = none → c = 0 ∧ L = []) (hc : L.length ≤ c) (hm : c ≤ maxLen) (hl : ¬ 296 < L.length) (ht : ¬ 3000 < t.size) (hk : lkE L u e ≠ 0) (hp : pZ11 t.data.toList ≠ 0) :
    Calls Tryz.prog 5 #[.agg #[.slice A L.length c, .int .i64 u, .int .i64 e], .string t] w fun x w' => x = .returned (.bool true) ∧ Below w.heap.size w w' := by
  obtain ⟨W0, hW0, b0, s0, g0⟩ := raw_new11 w A L.length c u e
  clear s0
  have B := Lib.hid b0
  have S := Lib.hid (hs.below b0)
  have X := Lib.hid g0
  have R := Lib.hid (hr.keep b0).low
  have HLo := Lib.hid (fun W => long11_any A L.length c u e W)
  have HAl := Lib.hid (fun W hs => alive11_any W hs)
  have q0 := fun op t W x k => guard_ev op t W x k
  have q1 := fun W k => eql_ev W k
  have q2 := fun W k => neq_ev W k
  rw [decide_eq_false hl] at HLo
  have hz : ¬ (3000 : Int) < (t.size : Int) := by omega
  have HN := Lib.hid (fun W (hs : S11 W) (hr : Rp W.heap.size W A L) => new_no A c L u e W hs.ends (by omega) hr hc hm hk)
  have hkb : (lkE L u e != 0) = true := bne_iff_ne.mpr hk
  have hkc : (lkE L u e == 0) = false := beq_eq_false_iff_ne.2 hk
  have HP := Lib.hid (fun W (h : S11 W) => parse11_no t W h hp)
  have hpb : (pZ11 t.data.toList != 0) = true := bne_iff_ne.mpr hp
  clear hl ht hk hp
  clear hs b0 g0 hr hA hc hm
  generalize lkE L u e = kk at *
  generalize pZ11 t.data.toList = pz at *
  generalize L.length = N at *
  go_enter Tryz.func5, Tryz.ntmps5
  go_upto_region 1 with fail
  rw [← hW0]; clear hW0
  go_wp2_with fail
  refine (HAl.out _ S.out).mono ?_
  rintro e1 w1 ⟨rfl, hb⟩
  have B := Lib.hid (B.out.trans (hb.mono B.out.size))
  have S := Lib.hid (S.out.below hb)
  have X := Lib.hid ((hb.block _ (bk_lt X.out)).trans X.out)
  have R := Lib.hid ((R.out.keep hb).low)
  clear hb
  have cX0 := bk_cell X.out 0
  have cX1 := bk_cell X.out 1
  have cX2 := bk_cell X.out 2
  go_wp2_with fail
  refine (HLo.out _).mono ?_
  rintro e2 w2 ⟨rfl, hb⟩
  clear cX0 cX1 cX2
  have B := Lib.hid (B.out.trans (hb.mono B.out.size))
  have S := Lib.hid (S.out.below hb)
  have X := Lib.hid ((hb.block _ (bk_lt X.out)).trans X.out)
  have R := Lib.hid ((R.out.keep hb).low)
  clear hb
  have cX0 := bk_cell X.out 0
  have cX1 := bk_cell X.out 1
  have cX2 := bk_cell X.out 2
  go_wp2_with fail
  refine (HN.out _ S.out R.out).mono ?_
  rintro e3 w3 ⟨rfl, hb⟩
  clear cX0 cX1 cX2
  have B := Lib.hid (B.out.trans (hb.mono B.out.size))
  have S := Lib.hid (S.out.below hb)
  have X := Lib.hid ((hb.block _ (bk_lt X.out)).trans X.out)
  have R := Lib.hid ((R.out.keep hb).low)
  clear hb
  go_wp2_with fail
  refine (HP.out _ S.out).mono ?_
  rintro e4 w4 ⟨rfl, hb⟩
  have B := Lib.hid (B.out.trans (hb.mono B.out.size))
  have S := Lib.hid (S.out.below hb)
  have X := Lib.hid ((hb.block _ (bk_lt X.out)).trans X.out)
  have R := Lib.hid ((R.out.keep hb).low)
  clear hb
  go_wp2_with fail
  go_ret
  exact ⟨rfl, B.out⟩

set_option maxRecDepth 100000 in
set_option maxHeartbeats 4000000 in
theorem lback11_ny (A : Option Addr) (c : Nat) (L : List Rw) (u e : Int) (t : ByteArray) (w : World) (hs : S11 w) (hr : Rp w.heap.size w A L) (hA : A = none → c = 0 ∧ L = []) (hc : L.length ≤ c) (hm : c ≤ maxLen) (hl : ¬ 296 < L.length) (ht : ¬ 3000 < t.size) (hk : lkE L u e ≠ 0) (hp : pZ11 t.data.toList = 0) :
    Calls Tryz.prog 5 #[.agg #[.slice A L.length c, .int .i64 u, .int .i64 e], .string t] w fun x w' => x = .returned (.bool true) ∧ Below w.heap.size w w' := by
  obtain ⟨W0, hW0, b0, s0, g0⟩ := raw_new11 w A L.length c u e
  clear s0
  have B := Lib.hid b0
  have S := Lib.hid (hs.below b0)
  have X := Lib.hid g0
  have R := Lib.hid (hr.keep b0).low
  have HLo := Lib.hid (fun W => long11_any A L.length c u e W)
  have HAl := Lib.hid (fun W hs => alive11_any W hs)
  have q0 := fun op t W x k => guard_ev op t W x k
  have q1 := fun W k => eql_ev W k
  have q2 := fun W k => neq_ev W k
  rw [decide_eq_false hl] at HLo
  have hz : ¬ (3000 : Int) < (t.size : Int) := by omega
  have HN := Lib.hid (fun W (hs : S11 W) (hr : Rp W.heap.size W A L) => new_no A c L u e W hs.ends (by omega) hr hc hm hk)
  have hkb : (lkE L u e != 0) = true := bne_iff_ne.mpr hk
  have hkc : (lkE L u e == 0) = false := beq_eq_false_iff_ne.2 hk
  have HP := Lib.hid (fun W (h : S11 W) => parse11_yes t W h hp)
  have HBq := Lib.hid (fun (lo g : Nat) (W : World) (h1 : S11 W) (h2 : Tb lo W g (rg11 t.data.toList).L (rg11 t.data.toList).u (rg11 t.data.toList).e) => back11_any W h1 h2 (paE11_zero (pE11_zero hp).2.2).2.2.1)
  clear hl ht hk hp
  clear hs b0 g0 hr hA hc hm
  generalize lkE L u e = kk at *
  generalize rg11 t.data.toList = rr at *
  generalize L.length = N at *
  go_enter Tryz.func5, Tryz.ntmps5
  go_upto_region 1 with fail
  rw [← hW0]; clear hW0
  go_wp2_with fail
  refine (HAl.out _ S.out).mono ?_
  rintro e1 w1 ⟨rfl, hb⟩
  have B := Lib.hid (B.out.trans (hb.mono B.out.size))
  have S := Lib.hid (S.out.below hb)
  have X := Lib.hid ((hb.block _ (bk_lt X.out)).trans X.out)
  have R := Lib.hid ((R.out.keep hb).low)
  clear hb
  have cX0 := bk_cell X.out 0
  have cX1 := bk_cell X.out 1
  have cX2 := bk_cell X.out 2
  go_wp2_with fail
  refine (HLo.out _).mono ?_
  rintro e2 w2 ⟨rfl, hb⟩
  clear cX0 cX1 cX2
  have B := Lib.hid (B.out.trans (hb.mono B.out.size))
  have S := Lib.hid (S.out.below hb)
  have X := Lib.hid ((hb.block _ (bk_lt X.out)).trans X.out)
  have R := Lib.hid ((R.out.keep hb).low)
  clear hb
  have cX0 := bk_cell X.out 0
  have cX1 := bk_cell X.out 1
  have cX2 := bk_cell X.out 2
  go_wp2_with fail
  refine (HN.out _ S.out R.out).mono ?_
  rintro e3 w3 ⟨rfl, hb⟩
  clear cX0 cX1 cX2
  have B := Lib.hid (B.out.trans (hb.mono B.out.size))
  have S := Lib.hid (S.out.below hb)
  have X := Lib.hid ((hb.block _ (bk_lt X.out)).trans X.out)
  have R := Lib.hid ((R.out.keep hb).low)
  clear hb
  go_wp2_with fail
  refine (HP.out _ S.out).mono ?_
  rintro e4 w4 ⟨g2, rfl, hb, ht⟩
  have T2 := Lib.hid ht
  clear ht
  have B := Lib.hid (B.out.trans (hb.mono B.out.size))
  have S := Lib.hid (S.out.below hb)
  have X := Lib.hid ((hb.block _ (bk_lt X.out)).trans X.out)
  have R := Lib.hid ((R.out.keep hb).low)
  clear hb
  go_wp2_with fail
  refine (HBq.out _ _ _ S.out T2.out).mono ?_
  rintro e5 w5 ⟨rfl, hb⟩
  have B := Lib.hid (B.out.trans (hb.mono B.out.size))
  have S := Lib.hid (S.out.below hb)
  have X := Lib.hid ((hb.block _ (bk_lt X.out)).trans X.out)
  have R := Lib.hid ((R.out.keep hb).low)
  have T2 := Lib.hid (T2.out.below hb)
  clear hb
  go_wp2_with fail
  go_ret
  exact ⟨rfl, B.out⟩

set_option maxRecDepth 100000 in
set_option maxHeartbeats 4000000 in
theorem lback11_yn (A : Option Addr) (c : Nat) (L : List Rw) (u e : Int) (t : ByteArray) (w : World) (hs : S11 w) (hr : Rp w.heap.size w A L) (hA : A = none → c = 0 ∧ L = []) (hc : L.length ≤ c) (hm : c ≤ maxLen) (hl : ¬ 296 < L.length) (ht : ¬ 3000 < t.size) (hk : lkE L u e = 0) (hp : pZ11 t.data.toList ≠ 0) :
    Calls Tryz.prog 5 #[.agg #[.slice A L.length c, .int .i64 u, .int .i64 e], .string t] w fun x w' => x = .returned (.bool true) ∧ Below w.heap.size w w' := by
  obtain ⟨W0, hW0, b0, s0, g0⟩ := raw_new11 w A L.length c u e
  clear s0
  have B := Lib.hid b0
  have S := Lib.hid (hs.below b0)
  have X := Lib.hid g0
  have R := Lib.hid (hr.keep b0).low
  have HLo := Lib.hid (fun W => long11_any A L.length c u e W)
  have HAl := Lib.hid (fun W hs => alive11_any W hs)
  have q0 := fun op t W x k => guard_ev op t W x k
  have q1 := fun W k => eql_ev W k
  have q2 := fun W k => neq_ev W k
  rw [decide_eq_false hl] at HLo
  have hz : ¬ (3000 : Int) < (t.size : Int) := by omega
  have HN := Lib.hid (fun W (hs : S11 W) (hr : Rp W.heap.size W A L) => new_some A c L u e W hs.ends (by omega) hr hA hc hm hk)
  have HBk := Lib.hid (fun (lo g : Nat) (W : World) (h1 : S11 W) (h2 : Tb lo W g L u e) => back11_any W h1 h2 hk)
  have HP := Lib.hid (fun W (h : S11 W) => parse11_no t W h hp)
  have hpb : (pZ11 t.data.toList != 0) = true := bne_iff_ne.mpr hp
  clear hl ht hk hp
  clear hs b0 g0 hr hA hc hm
  generalize pZ11 t.data.toList = pz at *
  generalize L.length = N at *
  go_enter Tryz.func5, Tryz.ntmps5
  go_upto_region 1 with fail
  rw [← hW0]; clear hW0
  go_wp2_with fail
  refine (HAl.out _ S.out).mono ?_
  rintro e1 w1 ⟨rfl, hb⟩
  have B := Lib.hid (B.out.trans (hb.mono B.out.size))
  have S := Lib.hid (S.out.below hb)
  have X := Lib.hid ((hb.block _ (bk_lt X.out)).trans X.out)
  have R := Lib.hid ((R.out.keep hb).low)
  clear hb
  have cX0 := bk_cell X.out 0
  have cX1 := bk_cell X.out 1
  have cX2 := bk_cell X.out 2
  go_wp2_with fail
  refine (HLo.out _).mono ?_
  rintro e2 w2 ⟨rfl, hb⟩
  clear cX0 cX1 cX2
  have B := Lib.hid (B.out.trans (hb.mono B.out.size))
  have S := Lib.hid (S.out.below hb)
  have X := Lib.hid ((hb.block _ (bk_lt X.out)).trans X.out)
  have R := Lib.hid ((R.out.keep hb).low)
  clear hb
  have cX0 := bk_cell X.out 0
  have cX1 := bk_cell X.out 1
  have cX2 := bk_cell X.out 2
  go_wp2_with fail
  refine (HN.out _ S.out R.out).mono ?_
  rintro e3 w3 ⟨g, rfl, hb, ht⟩
  have T := Lib.hid ht
  clear ht
  clear cX0 cX1 cX2
  have B := Lib.hid (B.out.trans (hb.mono B.out.size))
  have S := Lib.hid (S.out.below hb)
  have X := Lib.hid ((hb.block _ (bk_lt X.out)).trans X.out)
  have R := Lib.hid ((R.out.keep hb).low)
  clear hb
  go_wp2_with fail
  refine (HBk.out _ _ _ S.out T.out).mono ?_
  rintro e4 w4 ⟨rfl, hb⟩
  have B := Lib.hid (B.out.trans (hb.mono B.out.size))
  have S := Lib.hid (S.out.below hb)
  have X := Lib.hid ((hb.block _ (bk_lt X.out)).trans X.out)
  have R := Lib.hid ((R.out.keep hb).low)
  have T := Lib.hid (T.out.below hb)
  clear hb
  go_wp2_with fail
  refine (HP.out _ S.out).mono ?_
  rintro e5 w5 ⟨rfl, hb⟩
  have B := Lib.hid (B.out.trans (hb.mono B.out.size))
  have S := Lib.hid (S.out.below hb)
  have X := Lib.hid ((hb.block _ (bk_lt X.out)).trans X.out)
  have R := Lib.hid ((R.out.keep hb).low)
  have T := Lib.hid (T.out.below hb)
  clear hb
  go_wp2_with fail
  go_ret
  exact ⟨rfl, B.out⟩

set_option maxRecDepth 100000 in
set_option maxHeartbeats 4000000 in
theorem lback11_yy (A : Option Addr) (c : Nat) (L : List Rw) (u e : Int) (t : ByteArray) (w : World) (hs : S11 w) (hr : Rp w.heap.size w A L) (hA : A = none → c = 0 ∧ L = []) (hc : L.length ≤ c) (hm : c ≤ maxLen) (hl : ¬ 296 < L.length) (ht : ¬ 3000 < t.size) (hk : lkE L u e = 0) (hp : pZ11 t.data.toList = 0) :
    Calls Tryz.prog 5 #[.agg #[.slice A L.length c, .int .i64 u, .int .i64 e], .string t] w fun x w' => x = .returned (.bool true) ∧ Below w.heap.size w w' := by
  obtain ⟨W0, hW0, b0, s0, g0⟩ := raw_new11 w A L.length c u e
  clear s0
  have B := Lib.hid b0
  have S := Lib.hid (hs.below b0)
  have X := Lib.hid g0
  have R := Lib.hid (hr.keep b0).low
  have HLo := Lib.hid (fun W => long11_any A L.length c u e W)
  have HAl := Lib.hid (fun W hs => alive11_any W hs)
  have q0 := fun op t W x k => guard_ev op t W x k
  have q1 := fun W k => eql_ev W k
  have q2 := fun W k => neq_ev W k
  rw [decide_eq_false hl] at HLo
  have hz : ¬ (3000 : Int) < (t.size : Int) := by omega
  have HN := Lib.hid (fun W (hs : S11 W) (hr : Rp W.heap.size W A L) => new_some A c L u e W hs.ends (by omega) hr hA hc hm hk)
  have HBk := Lib.hid (fun (lo g : Nat) (W : World) (h1 : S11 W) (h2 : Tb lo W g L u e) => back11_any W h1 h2 hk)
  have HP := Lib.hid (fun W (h : S11 W) => parse11_yes t W h hp)
  have HBq := Lib.hid (fun (lo g : Nat) (W : World) (h1 : S11 W) (h2 : Tb lo W g (rg11 t.data.toList).L (rg11 t.data.toList).u (rg11 t.data.toList).e) => back11_any W h1 h2 (paE11_zero (pE11_zero hp).2.2).2.2.1)
  clear hl ht hk hp
  clear hs b0 g0 hr hA hc hm
  generalize rg11 t.data.toList = rr at *
  generalize L.length = N at *
  go_enter Tryz.func5, Tryz.ntmps5
  go_upto_region 1 with fail
  rw [← hW0]; clear hW0
  go_wp2_with fail
  refine (HAl.out _ S.out).mono ?_
  rintro e1 w1 ⟨rfl, hb⟩
  have B := Lib.hid (B.out.trans (hb.mono B.out.size))
  have S := Lib.hid (S.out.below hb)
  have X := Lib.hid ((hb.block _ (bk_lt X.out)).trans X.out)
  have R := Lib.hid ((R.out.keep hb).low)
  clear hb
  have cX0 := bk_cell X.out 0
  have cX1 := bk_cell X.out 1
  have cX2 := bk_cell X.out 2
  go_wp2_with fail
  refine (HLo.out _).mono ?_
  rintro e2 w2 ⟨rfl, hb⟩
  clear cX0 cX1 cX2
  have B := Lib.hid (B.out.trans (hb.mono B.out.size))
  have S := Lib.hid (S.out.below hb)
  have X := Lib.hid ((hb.block _ (bk_lt X.out)).trans X.out)
  have R := Lib.hid ((R.out.keep hb).low)
  clear hb
  have cX0 := bk_cell X.out 0
  have cX1 := bk_cell X.out 1
  have cX2 := bk_cell X.out 2
  go_wp2_with fail
  refine (HN.out _ S.out R.out).mono ?_
  rintro e3 w3 ⟨g, rfl, hb, ht⟩
  have T := Lib.hid ht
  clear ht
  clear cX0 cX1 cX2
  have B := Lib.hid (B.out.trans (hb.mono B.out.size))
  have S := Lib.hid (S.out.below hb)
  have X := Lib.hid ((hb.block _ (bk_lt X.out)).trans X.out)
  have R := Lib.hid ((R.out.keep hb).low)
  clear hb
  go_wp2_with fail
  refine (HBk.out _ _ _ S.out T.out).mono ?_
  rintro e4 w4 ⟨rfl, hb⟩
  have B := Lib.hid (B.out.trans (hb.mono B.out.size))
  have S := Lib.hid (S.out.below hb)
  have X := Lib.hid ((hb.block _ (bk_lt X.out)).trans X.out)
  have R := Lib.hid ((R.out.keep hb).low)
  have T := Lib.hid (T.out.below hb)
  clear hb
  go_wp2_with fail
  refine (HP.out _ S.out).mono ?_
  rintro e5 w5 ⟨g2, rfl, hb, ht⟩
  have T2 := Lib.hid ht
  clear ht
  have B := Lib.hid (B.out.trans (hb.mono B.out.size))
  have S := Lib.hid (S.out.below hb)
  have X := Lib.hid ((hb.block _ (bk_lt X.out)).trans X.out)
  have R := Lib.hid ((R.out.keep hb).low)
  have T := Lib.hid (T.out.below hb)
  clear hb
  go_wp2_with fail
  refine (HBq.out _ _ _ S.out T2.out).mono ?_
  rintro e6 w6 ⟨rfl, hb⟩
  have B := Lib.hid (B.out.trans (hb.mono B.out.size))
  have S := Lib.hid (S.out.below hb)
  have X := Lib.hid ((hb.block _ (bk_lt X.out)).trans X.out)
  have R := Lib.hid ((R.out.keep hb).low)
  have T := Lib.hid (T.out.below hb)
  have T2 := Lib.hid (T2.out.below hb)
  clear hb
  go_wp2_with fail
  go_ret
  exact ⟨rfl, B.out⟩

theorem lback11_walk (A : Option Addr) (c : Nat) (L : List Rw) (u e : Int) (t : ByteArray) (w : World) (hs : S11 w) (hr : Rp w.heap.size w A L) (hA : A = none → c = 0 ∧ L = []) (hc : L.length ≤ c) (hm : c ≤ maxLen) :
    Calls Tryz.prog 5 #[.agg #[.slice A L.length c, .int .i64 u, .int .i64 e], .string t] w fun x w' => x = .returned (.bool true) ∧ Below w.heap.size w w' := by
  by_cases hl : 296 < L.length
  · exact lback11_long A c L u e t w hs hr hA hc hm hl
  by_cases ht : 3000 < t.size
  · exact lback11_far A c L u e t w hs hr hA hc hm hl ht
  by_cases hk : lkE L u e = 0
  · by_cases hp : pZ11 t.data.toList = 0
    · exact lback11_yy A c L u e t w hs hr hA hc hm hl ht hk hp
    · exact lback11_yn A c L u e t w hs hr hA hc hm hl ht hk hp
  · by_cases hp : pZ11 t.data.toList = 0
    · exact lback11_ny A c L u e t w hs hr hA hc hm hl ht hk hp
    · exact lback11_nn A c L u e t w hs hr hA hc hm hl ht hk hp

end Go.Proofs.YtiamggjebaabkaaGreatDoor
