/- The law PosixBack, walked. (Written by gen_posj.py.) -/
import Derived.Test.YtkhcneacjnpcnaaDoorPosG
import Derived.Test.YtkhcneacjnpcnaaDoorPosH
import Derived.Test.YtkhcneacjnpcnaaDoorPosI
namespace Go.Proofs.YtkhcneacjnpcnaaDoor
open Go.RowKit
set_option linter.unusedVariables false
set_option linter.unusedSimpArgs false

set_option maxRecDepth 100000 in
set_option maxHeartbeats 4000000 in
theorem alive17_any (w : World) : Calls Tryd.prog 4 #[] w fun x w' => x = .returned (.bool true) ∧ Below w.heap.size w w' := by
  have q0 := fun op t W x k => guard_ev op t W x k
  have q1 := fun W k => eql_ev W k
  have q2 := fun W k => neq_ev W k
  have HP := parse17_any ⟨#[69, 83, 84, 53, 69, 68, 84, 44, 77, 51, 46, 50, 46, 48, 44, 77, 49, 49, 46, 49, 46, 48]⟩ w (by decide)
  rw [show (⟨#[69, 83, 84, 53, 69, 68, 84, 44, 77, 51, 46, 50, 46, 48, 44, 77, 49, 49, 46, 49, 46, 48]⟩ : ByteArray).data.toList = aL from rfl, ps_alive.1, ps_alive.2] at HP
  have HP : Hid (Calls Tryd.prog 8 #[.string ⟨#[69, 83, 84, 53, 69, 68, 84, 44, 77, 51, 46, 50, 46, 48, 44, 77, 49, 49, 46, 49, 46, 48]⟩] w fun x w' => x = .returned (.tuple #[.agg #[.string ⟨#[69, 83, 84]⟩, .string ⟨#[69, 68, 84]⟩, .int .i64 (-18000), .int .i64 (-14400), .int .i64 3, .int .i64 3, .int .i64 2, .int .i64 0, .int .i64 7200, .int .i64 3, .int .i64 11, .int .i64 1, .int .i64 0, .int .i64 7200], ev 0]) ∧ Below w.heap.size w w') := Lib.hid HP
  go_enter Tryd.func4, Tryd.ntmps4
  go_wp2_with (go_at_call 8; refine HP.out.mono ?_; rintro x w1 ⟨rfl, hb⟩; have B := Lib.hid hb; clear hb)
  go_ret
  exact ⟨rfl, B.out.alloc B.out.size _⟩
set_option maxRecDepth 100000 in
set_option maxHeartbeats 8000000 in
theorem back17_walk (a : Pl) (S : ByteArray) (w : World) (hT : Tab w)
    (HU : Hid (∀ w, Tab w → Calls Tryd.prog 14 #[.agg #[.string ⟨a.N.toArray⟩, .string ⟨a.S.toArray⟩, .int .i64 a.O, .int .i64 a.A, .int .i64 a.B.K, .int .i64 a.B.M, .int .i64 a.B.W, .int .i64 a.B.D, .int .i64 a.B.T, .int .i64 a.E.K, .int .i64 a.E.M, .int .i64 a.E.W, .int .i64 a.E.D, .int .i64 a.E.T]] w fun x w' => x = .returned (.tuple #[.string S, ev 0]) ∧ Below w.heap.size w w'))
    (HP : Hid (∀ w, Calls Tryd.prog 8 #[.string S] w fun x w' => x = .returned (.tuple #[.agg #[.string ⟨a.N.toArray⟩, .string ⟨a.S.toArray⟩, .int .i64 a.O, .int .i64 a.A, .int .i64 a.B.K, .int .i64 a.B.M, .int .i64 a.B.W, .int .i64 a.B.D, .int .i64 a.B.T, .int .i64 a.E.K, .int .i64 a.E.M, .int .i64 a.E.W, .int .i64 a.E.D, .int .i64 a.E.T], ev 0]) ∧ Below w.heap.size w w'))
    : Calls Tryd.prog 7 #[.agg a.cells] w fun x w' => x = .returned (.bool true) ∧ Below w.heap.size w w' := by
  have q0 := fun op t W x k => guard_ev op t W x k
  have q1 := fun W k => eql_ev W k
  have q2 := fun W k => neq_ev W k
  have eq := fun w => eq_plan ⟨a.N.toArray⟩ ⟨a.S.toArray⟩ a.O a.A a.B.K a.B.M a.B.W a.B.D a.B.T a.E.K a.E.M a.E.W a.E.D a.E.T w
  obtain ⟨W0, hW0⟩ : ∃ W0, W0 = w.alloc (.cells a.cells 25) := ⟨_, rfl⟩
  have B : Hid (Below w.heap.size w W0) := Lib.hid (by rw [hW0]; exact bel16 w _)
  have L0 : Plk W0 w.heap.size a := by rw [hW0]; exact plk_new _ _
  obtain ⟨c0, c1, c2, c3, c4, c5, c6, c7, c8, c9, c10, c11, c12, c13⟩ := L0.all
  have R := Lib.hid L0
  have T := Lib.hid (hT.below B.out)
  clear L0 hT
  go_enter Tryd.func7, Tryd.ntmps7
  go_upto_region 1 with fail
  rw [← hW0]; clear hW0
  go_upto_region 3 with (first
    | (go_at_call 14; with_reducible refine (HU.out _ T.out).mono ?_; rintro x w1 ⟨rfl, hb⟩; have R := Lib.hid (R.out.keep hb); have T := Lib.hid (T.out.below hb); have B := Lib.hid (B.out.trans (hb.mono B.out.size)); clear hb; obtain ⟨c0, c1, c2, c3, c4, c5, c6, c7, c8, c9, c10, c11, c12, c13⟩ := R.out.all)
    | (go_at_call 8; with_reducible refine (HP.out _).mono ?_; rintro x w2 ⟨rfl, hb⟩; have R := Lib.hid (R.out.keep hb); have T := Lib.hid (T.out.below hb); have B := Lib.hid (B.out.trans (hb.mono B.out.size)); clear hb; obtain ⟨c0, c1, c2, c3, c4, c5, c6, c7, c8, c9, c10, c11, c12, c13⟩ := R.out.all))
  have R9 := R.out.keep (bel16 w2 (.cells #[.string ⟨a.N.toArray⟩, .string ⟨a.S.toArray⟩, .int .i64 a.O, .int .i64 a.A, .int .i64 a.B.K, .int .i64 a.B.M, .int .i64 a.B.W, .int .i64 a.B.D, .int .i64 a.B.T, .int .i64 a.E.K, .int .i64 a.E.M, .int .i64 a.E.W, .int .i64 a.E.D, .int .i64 a.E.T] 25))
  have N9 : Plk (w2.alloc (.cells #[.string ⟨a.N.toArray⟩, .string ⟨a.S.toArray⟩, .int .i64 a.O, .int .i64 a.A, .int .i64 a.B.K, .int .i64 a.B.M, .int .i64 a.B.W, .int .i64 a.B.D, .int .i64 a.B.T, .int .i64 a.E.K, .int .i64 a.E.M, .int .i64 a.E.W, .int .i64 a.E.D, .int .i64 a.E.T] 25)) w2.heap.size a := plk_new w2 a
  have B9 := B.out.alloc B.out.size (.cells #[.string ⟨a.N.toArray⟩, .string ⟨a.S.toArray⟩, .int .i64 a.O, .int .i64 a.A, .int .i64 a.B.K, .int .i64 a.B.M, .int .i64 a.B.W, .int .i64 a.B.D, .int .i64 a.B.T, .int .i64 a.E.K, .int .i64 a.E.M, .int .i64 a.E.W, .int .i64 a.E.D, .int .i64 a.E.T] 25)
  obtain ⟨q, hq⟩ : ∃ q, q = w2.heap.size := ⟨_, rfl⟩
  obtain ⟨W9, hW9⟩ : ∃ W9, W9 = w2.alloc (.cells #[.string ⟨a.N.toArray⟩, .string ⟨a.S.toArray⟩, .int .i64 a.O, .int .i64 a.A, .int .i64 a.B.K, .int .i64 a.B.M, .int .i64 a.B.W, .int .i64 a.B.D, .int .i64 a.B.T, .int .i64 a.E.K, .int .i64 a.E.M, .int .i64 a.E.W, .int .i64 a.E.D, .int .i64 a.E.T] 25) := ⟨_, rfl⟩
  rw [← hW9] at R9 N9 B9
  rw [← hq] at N9
  rw [← hW9, ← hq]
  have BB := Lib.hid B9
  clear hW9 hq B9 B R T
  obtain ⟨c0, c1, c2, c3, c4, c5, c6, c7, c8, c9, c10, c11, c12, c13⟩ := R9.all
  obtain ⟨d0, d1, d2, d3, d4, d5, d6, d7, d8, d9, d10, d11, d12, d13⟩ := N9.all
  clear R9 N9
  go_wp2_with fail
  go_ret
  exact ⟨rfl, BB.out⟩
theorem back17_any (a : Pl) (w : World) (hT : Tab w) (h : plE a = 0) :
    Calls Tryd.prog 7 #[.agg a.cells] w fun x w' => x = .returned (.bool true) ∧ Below w.heap.size w w' := by
  have z := plE_zero h
  have n1 := (nmP_bd z.1).2.1
  have n2 : a.S.length ≤ 16 := by
    rcases z.2.2.2 with c | c
    · rw [c.1]; exact Nat.zero_le _
    · exact (nmP_bd c.2.1).2.1
  have HU := fun w t => put17_any a w t (by omega) (by omega)
  rw [show ptP a = plL a from if_pos h, h] at HU
  have pl := plL_len h
  have HP := fun w => parse17_any ⟨(plL a).toArray⟩ w (by rw [Lib.size_mk]; omega)
  rw [show (⟨(plL a).toArray⟩ : ByteArray).data.toList = plL a by simp, (ps_put h).1, (ps_put h).2] at HP
  exact back17_walk a _ w hT (Lib.hid HU) (Lib.hid HP)
set_option maxRecDepth 100000 in
set_option maxHeartbeats 8000000 in
theorem back17_l1 (a : Pl) (s : ByteArray) (w : World) (hT : Tab w)
    (HL : Hid (∀ w, Calls Tryd.prog 5 #[.agg #[.string ⟨a.N.toArray⟩, .string ⟨a.S.toArray⟩, .int .i64 a.O, .int .i64 a.A, .int .i64 a.B.K, .int .i64 a.B.M, .int .i64 a.B.W, .int .i64 a.B.D, .int .i64 a.B.T, .int .i64 a.E.K, .int .i64 a.E.M, .int .i64 a.E.W, .int .i64 a.E.D, .int .i64 a.E.T]] w fun x w' => x = .returned (.bool true) ∧ Below w.heap.size w w'))
    : Calls Tryd.prog 3 #[.agg a.cells, .string s] w fun x w' => x = .returned (.bool true) ∧ Below w.heap.size w w' := by
  have HA := Lib.hid (fun w => alive17_any w)
  obtain ⟨W0, hW0⟩ : ∃ W0, W0 = w.alloc (.cells a.cells 25) := ⟨_, rfl⟩
  have B : Hid (Below w.heap.size w W0) := Lib.hid (by rw [hW0]; exact bel16 w _)
  have L0 : Plk W0 w.heap.size a := by rw [hW0]; exact plk_new _ _
  obtain ⟨c0, c1, c2, c3, c4, c5, c6, c7, c8, c9, c10, c11, c12, c13⟩ := L0.all
  have R := Lib.hid L0
  have T := Lib.hid (hT.below B.out)
  clear L0 hT
  go_enter Tryd.func3, Tryd.ntmps3
  go_upto_region 1 with fail
  rw [← hW0]; clear hW0
  go_wp2_with (first
    | (go_at_call 4; with_reducible refine (HA.out _).mono ?_; rintro x w1 ⟨rfl, hb⟩; have R := Lib.hid (R.out.keep hb); have T := Lib.hid (T.out.below hb); have B := Lib.hid (B.out.trans (hb.mono B.out.size)); clear hb; obtain ⟨c0, c1, c2, c3, c4, c5, c6, c7, c8, c9, c10, c11, c12, c13⟩ := R.out.all)
    | (go_at_call 5; with_reducible refine (HL.out _).mono ?_; rintro x w2 ⟨rfl, hb⟩; have R := Lib.hid (R.out.keep hb); have T := Lib.hid (T.out.below hb); have B := Lib.hid (B.out.trans (hb.mono B.out.size)); clear hb; obtain ⟨c0, c1, c2, c3, c4, c5, c6, c7, c8, c9, c10, c11, c12, c13⟩ := R.out.all))
  go_ret
  exact ⟨rfl, B.out⟩
set_option maxRecDepth 100000 in
set_option maxHeartbeats 8000000 in
theorem back17_l2 (a : Pl) (s : ByteArray) (w : World) (hT : Tab w) (hs : 200 < s.size) (hs2 : s.size ≤ maxLen)
    (HL : Hid (∀ w, Calls Tryd.prog 5 #[.agg #[.string ⟨a.N.toArray⟩, .string ⟨a.S.toArray⟩, .int .i64 a.O, .int .i64 a.A, .int .i64 a.B.K, .int .i64 a.B.M, .int .i64 a.B.W, .int .i64 a.B.D, .int .i64 a.B.T, .int .i64 a.E.K, .int .i64 a.E.M, .int .i64 a.E.W, .int .i64 a.E.D, .int .i64 a.E.T]] w fun x w' => x = .returned (.bool false) ∧ Below w.heap.size w w'))
    : Calls Tryd.prog 3 #[.agg a.cells, .string s] w fun x w' => x = .returned (.bool true) ∧ Below w.heap.size w w' := by
  have HA := Lib.hid (fun w => alive17_any w)
  unfold maxLen at hs2
  have t1 : decide ((200 : Int) < (s.size : Int)) = true := decide_eq_true (by omega)
  clear hs
  obtain ⟨W0, hW0⟩ : ∃ W0, W0 = w.alloc (.cells a.cells 25) := ⟨_, rfl⟩
  have B : Hid (Below w.heap.size w W0) := Lib.hid (by rw [hW0]; exact bel16 w _)
  have L0 : Plk W0 w.heap.size a := by rw [hW0]; exact plk_new _ _
  obtain ⟨c0, c1, c2, c3, c4, c5, c6, c7, c8, c9, c10, c11, c12, c13⟩ := L0.all
  have R := Lib.hid L0
  have T := Lib.hid (hT.below B.out)
  clear L0 hT
  go_enter Tryd.func3, Tryd.ntmps3
  go_upto_region 1 with fail
  rw [← hW0]; clear hW0
  go_wp2_with (first
    | (go_at_call 4; with_reducible refine (HA.out _).mono ?_; rintro x w1 ⟨rfl, hb⟩; have R := Lib.hid (R.out.keep hb); have T := Lib.hid (T.out.below hb); have B := Lib.hid (B.out.trans (hb.mono B.out.size)); clear hb; obtain ⟨c0, c1, c2, c3, c4, c5, c6, c7, c8, c9, c10, c11, c12, c13⟩ := R.out.all)
    | (go_at_call 5; with_reducible refine (HL.out _).mono ?_; rintro x w2 ⟨rfl, hb⟩; have R := Lib.hid (R.out.keep hb); have T := Lib.hid (T.out.below hb); have B := Lib.hid (B.out.trans (hb.mono B.out.size)); clear hb; obtain ⟨c0, c1, c2, c3, c4, c5, c6, c7, c8, c9, c10, c11, c12, c13⟩ := R.out.all))
  go_ret
  exact ⟨rfl, B.out⟩
set_option maxRecDepth 100000 in
set_option maxHeartbeats 8000000 in
theorem back17_yy (a Q : Pl) (s : ByteArray) (F G : Int) (f0 : F ≠ 0) (g0 : G ≠ 0) (w : World) (hT : Tab w) (hs : s.size ≤ 200)
    (HL : Hid (∀ w, Calls Tryd.prog 5 #[.agg #[.string ⟨a.N.toArray⟩, .string ⟨a.S.toArray⟩, .int .i64 a.O, .int .i64 a.A, .int .i64 a.B.K, .int .i64 a.B.M, .int .i64 a.B.W, .int .i64 a.B.D, .int .i64 a.B.T, .int .i64 a.E.K, .int .i64 a.E.M, .int .i64 a.E.W, .int .i64 a.E.D, .int .i64 a.E.T]] w fun x w' => x = .returned (.bool false) ∧ Below w.heap.size w w'))
    (HK : Hid (∀ w, Calls Tryd.prog 6 #[.agg #[.string ⟨a.N.toArray⟩, .string ⟨a.S.toArray⟩, .int .i64 a.O, .int .i64 a.A, .int .i64 a.B.K, .int .i64 a.B.M, .int .i64 a.B.W, .int .i64 a.B.D, .int .i64 a.B.T, .int .i64 a.E.K, .int .i64 a.E.M, .int .i64 a.E.W, .int .i64 a.E.D, .int .i64 a.E.T]] w fun x w' => x = .returned (ev 0) ∧ Below w.heap.size w w'))
    (HB : Hid (∀ w, Tab w → Calls Tryd.prog 7 #[.agg #[.string ⟨a.N.toArray⟩, .string ⟨a.S.toArray⟩, .int .i64 a.O, .int .i64 a.A, .int .i64 a.B.K, .int .i64 a.B.M, .int .i64 a.B.W, .int .i64 a.B.D, .int .i64 a.B.T, .int .i64 a.E.K, .int .i64 a.E.M, .int .i64 a.E.W, .int .i64 a.E.D, .int .i64 a.E.T]] w fun x w' => x = .returned (.bool true) ∧ Below w.heap.size w w'))
    (HP : Hid (∀ w, Calls Tryd.prog 8 #[.string s] w fun x w' => x = .returned (.tuple #[.agg #[.string ⟨Q.N.toArray⟩, .string ⟨Q.S.toArray⟩, .int .i64 Q.O, .int .i64 Q.A, .int .i64 Q.B.K, .int .i64 Q.B.M, .int .i64 Q.B.W, .int .i64 Q.B.D, .int .i64 Q.B.T, .int .i64 Q.E.K, .int .i64 Q.E.M, .int .i64 Q.E.W, .int .i64 Q.E.D, .int .i64 Q.E.T], ev 0]) ∧ Below w.heap.size w w'))
    (HKQ : Hid (∀ w, Calls Tryd.prog 6 #[.agg #[.string ⟨Q.N.toArray⟩, .string ⟨Q.S.toArray⟩, .int .i64 Q.O, .int .i64 Q.A, .int .i64 Q.B.K, .int .i64 Q.B.M, .int .i64 Q.B.W, .int .i64 Q.B.D, .int .i64 Q.B.T, .int .i64 Q.E.K, .int .i64 Q.E.M, .int .i64 Q.E.W, .int .i64 Q.E.D, .int .i64 Q.E.T]] w fun x w' => x = .returned (ev 0) ∧ Below w.heap.size w w'))
    (HBQ : Hid (∀ w, Tab w → Calls Tryd.prog 7 #[.agg #[.string ⟨Q.N.toArray⟩, .string ⟨Q.S.toArray⟩, .int .i64 Q.O, .int .i64 Q.A, .int .i64 Q.B.K, .int .i64 Q.B.M, .int .i64 Q.B.W, .int .i64 Q.B.D, .int .i64 Q.B.T, .int .i64 Q.E.K, .int .i64 Q.E.M, .int .i64 Q.E.W, .int .i64 Q.E.D, .int .i64 Q.E.T]] w fun x w' => x = .returned (.bool true) ∧ Below w.heap.size w w'))
    : Calls Tryd.prog 3 #[.agg a.cells, .string s] w fun x w' => x = .returned (.bool true) ∧ Below w.heap.size w w' := by
  have HA := Lib.hid (fun w => alive17_any w)
  have q0 := fun op t W x k => guard_ev op t W x k
  have q1 := fun W k => eql_ev W k
  have q2 := fun W k => neq_ev W k
  have t1 : decide ((200 : Int) < (s.size : Int)) = false := decide_eq_false (by omega)
  have f1 := eq_no f0
  have g1 := eq_no g0
  have f2 := ne_yes f0
  have g2 := ne_yes g0
  clear f0 g0
  obtain ⟨W0, hW0⟩ : ∃ W0, W0 = w.alloc (.cells a.cells 25) := ⟨_, rfl⟩
  have B : Hid (Below w.heap.size w W0) := Lib.hid (by rw [hW0]; exact bel16 w _)
  have L0 : Plk W0 w.heap.size a := by rw [hW0]; exact plk_new _ _
  obtain ⟨c0, c1, c2, c3, c4, c5, c6, c7, c8, c9, c10, c11, c12, c13⟩ := L0.all
  have R := Lib.hid L0
  have T := Lib.hid (hT.below B.out)
  clear L0 hT
  go_enter Tryd.func3, Tryd.ntmps3
  go_upto_region 1 with fail
  rw [← hW0]; clear hW0
  go_upto_region 8 with (first
    | (go_at_call 4; with_reducible refine (HA.out _).mono ?_; rintro x w1 ⟨rfl, hb⟩; have R := Lib.hid (R.out.keep hb); have T := Lib.hid (T.out.below hb); have B := Lib.hid (B.out.trans (hb.mono B.out.size)); clear hb; obtain ⟨c0, c1, c2, c3, c4, c5, c6, c7, c8, c9, c10, c11, c12, c13⟩ := R.out.all)
    | (go_at_call 5; with_reducible refine (HL.out _).mono ?_; rintro x w2 ⟨rfl, hb⟩; have R := Lib.hid (R.out.keep hb); have T := Lib.hid (T.out.below hb); have B := Lib.hid (B.out.trans (hb.mono B.out.size)); clear hb; obtain ⟨c0, c1, c2, c3, c4, c5, c6, c7, c8, c9, c10, c11, c12, c13⟩ := R.out.all)
    | (go_at_call 6; with_reducible refine (HK.out _).mono ?_; rintro x w3 ⟨rfl, hb⟩; have R := Lib.hid (R.out.keep hb); have T := Lib.hid (T.out.below hb); have B := Lib.hid (B.out.trans (hb.mono B.out.size)); clear hb; obtain ⟨c0, c1, c2, c3, c4, c5, c6, c7, c8, c9, c10, c11, c12, c13⟩ := R.out.all)
    | (go_at_call 7; with_reducible refine (HB.out _ T.out).mono ?_; rintro x w4 ⟨rfl, hb⟩; have R := Lib.hid (R.out.keep hb); have T := Lib.hid (T.out.below hb); have B := Lib.hid (B.out.trans (hb.mono B.out.size)); clear hb; obtain ⟨c0, c1, c2, c3, c4, c5, c6, c7, c8, c9, c10, c11, c12, c13⟩ := R.out.all)
    | (go_at_call 8; with_reducible refine (HP.out _).mono ?_; rintro x w5 ⟨rfl, hb⟩; have R := Lib.hid (R.out.keep hb); have T := Lib.hid (T.out.below hb); have B := Lib.hid (B.out.trans (hb.mono B.out.size)); clear hb; obtain ⟨c0, c1, c2, c3, c4, c5, c6, c7, c8, c9, c10, c11, c12, c13⟩ := R.out.all))
  have N9 : Plk (w5.alloc (.cells #[.string ⟨Q.N.toArray⟩, .string ⟨Q.S.toArray⟩, .int .i64 Q.O, .int .i64 Q.A, .int .i64 Q.B.K, .int .i64 Q.B.M, .int .i64 Q.B.W, .int .i64 Q.B.D, .int .i64 Q.B.T, .int .i64 Q.E.K, .int .i64 Q.E.M, .int .i64 Q.E.W, .int .i64 Q.E.D, .int .i64 Q.E.T] 25)) w5.heap.size Q := plk_new w5 Q
  have B9 := B.out.alloc B.out.size (.cells #[.string ⟨Q.N.toArray⟩, .string ⟨Q.S.toArray⟩, .int .i64 Q.O, .int .i64 Q.A, .int .i64 Q.B.K, .int .i64 Q.B.M, .int .i64 Q.B.W, .int .i64 Q.B.D, .int .i64 Q.B.T, .int .i64 Q.E.K, .int .i64 Q.E.M, .int .i64 Q.E.W, .int .i64 Q.E.D, .int .i64 Q.E.T] 25)
  have T9 := T.out.below (bel16 w5 (.cells #[.string ⟨Q.N.toArray⟩, .string ⟨Q.S.toArray⟩, .int .i64 Q.O, .int .i64 Q.A, .int .i64 Q.B.K, .int .i64 Q.B.M, .int .i64 Q.B.W, .int .i64 Q.B.D, .int .i64 Q.B.T, .int .i64 Q.E.K, .int .i64 Q.E.M, .int .i64 Q.E.W, .int .i64 Q.E.D, .int .i64 Q.E.T] 25))
  obtain ⟨q, hq⟩ : ∃ q, q = w5.heap.size := ⟨_, rfl⟩
  obtain ⟨W9, hW9⟩ : ∃ W9, W9 = w5.alloc (.cells #[.string ⟨Q.N.toArray⟩, .string ⟨Q.S.toArray⟩, .int .i64 Q.O, .int .i64 Q.A, .int .i64 Q.B.K, .int .i64 Q.B.M, .int .i64 Q.B.W, .int .i64 Q.B.D, .int .i64 Q.B.T, .int .i64 Q.E.K, .int .i64 Q.E.M, .int .i64 Q.E.W, .int .i64 Q.E.D, .int .i64 Q.E.T] 25) := ⟨_, rfl⟩
  rw [← hW9] at N9 B9 T9
  rw [← hq] at N9
  rw [← hW9, ← hq]
  have R := Lib.hid N9
  have B := Lib.hid B9
  have T := Lib.hid T9
  clear hW9 hq B9 N9 T9
  obtain ⟨c0, c1, c2, c3, c4, c5, c6, c7, c8, c9, c10, c11, c12, c13⟩ := R.out.all
  go_wp2_with (first
    | (go_at_call 6; with_reducible refine (HKQ.out _).mono ?_; rintro x w6 ⟨rfl, hb⟩; have R := Lib.hid (R.out.keep hb); have T := Lib.hid (T.out.below hb); have B := Lib.hid (B.out.trans (hb.mono B.out.size)); clear hb; obtain ⟨c0, c1, c2, c3, c4, c5, c6, c7, c8, c9, c10, c11, c12, c13⟩ := R.out.all)
    | (go_at_call 7; with_reducible refine (HBQ.out _ T.out).mono ?_; rintro x w7 ⟨rfl, hb⟩; have R := Lib.hid (R.out.keep hb); have T := Lib.hid (T.out.below hb); have B := Lib.hid (B.out.trans (hb.mono B.out.size)); clear hb; obtain ⟨c0, c1, c2, c3, c4, c5, c6, c7, c8, c9, c10, c11, c12, c13⟩ := R.out.all))
  go_ret
  exact ⟨rfl, B.out⟩
set_option maxRecDepth 100000 in
set_option maxHeartbeats 8000000 in
theorem back17_yn (a Q : Pl) (s : ByteArray) (F G : Int) (f0 : F ≠ 0) (g0 : G ≠ 0) (w : World) (hT : Tab w) (hs : s.size ≤ 200)
    (HL : Hid (∀ w, Calls Tryd.prog 5 #[.agg #[.string ⟨a.N.toArray⟩, .string ⟨a.S.toArray⟩, .int .i64 a.O, .int .i64 a.A, .int .i64 a.B.K, .int .i64 a.B.M, .int .i64 a.B.W, .int .i64 a.B.D, .int .i64 a.B.T, .int .i64 a.E.K, .int .i64 a.E.M, .int .i64 a.E.W, .int .i64 a.E.D, .int .i64 a.E.T]] w fun x w' => x = .returned (.bool false) ∧ Below w.heap.size w w'))
    (HK : Hid (∀ w, Calls Tryd.prog 6 #[.agg #[.string ⟨a.N.toArray⟩, .string ⟨a.S.toArray⟩, .int .i64 a.O, .int .i64 a.A, .int .i64 a.B.K, .int .i64 a.B.M, .int .i64 a.B.W, .int .i64 a.B.D, .int .i64 a.B.T, .int .i64 a.E.K, .int .i64 a.E.M, .int .i64 a.E.W, .int .i64 a.E.D, .int .i64 a.E.T]] w fun x w' => x = .returned (ev 0) ∧ Below w.heap.size w w'))
    (HB : Hid (∀ w, Tab w → Calls Tryd.prog 7 #[.agg #[.string ⟨a.N.toArray⟩, .string ⟨a.S.toArray⟩, .int .i64 a.O, .int .i64 a.A, .int .i64 a.B.K, .int .i64 a.B.M, .int .i64 a.B.W, .int .i64 a.B.D, .int .i64 a.B.T, .int .i64 a.E.K, .int .i64 a.E.M, .int .i64 a.E.W, .int .i64 a.E.D, .int .i64 a.E.T]] w fun x w' => x = .returned (.bool true) ∧ Below w.heap.size w w'))
    (HP : Hid (∀ w, Calls Tryd.prog 8 #[.string s] w fun x w' => x = .returned (.tuple #[.agg #[.string ⟨#[]⟩, .string ⟨#[]⟩, .int .i64 0, .int .i64 0, .int .i64 0, .int .i64 0, .int .i64 0, .int .i64 0, .int .i64 0, .int .i64 0, .int .i64 0, .int .i64 0, .int .i64 0, .int .i64 0], ev G]) ∧ Below w.heap.size w w'))
    : Calls Tryd.prog 3 #[.agg a.cells, .string s] w fun x w' => x = .returned (.bool true) ∧ Below w.heap.size w w' := by
  have HA := Lib.hid (fun w => alive17_any w)
  have q0 := fun op t W x k => guard_ev op t W x k
  have q1 := fun W k => eql_ev W k
  have q2 := fun W k => neq_ev W k
  have t1 : decide ((200 : Int) < (s.size : Int)) = false := decide_eq_false (by omega)
  have f1 := eq_no f0
  have g1 := eq_no g0
  have f2 := ne_yes f0
  have g2 := ne_yes g0
  clear f0 g0
  have eq := fun w => eq_plan ⟨#[]⟩ ⟨#[]⟩ 0 0 0 0 0 0 0 0 0 0 0 0 w
  obtain ⟨W0, hW0⟩ : ∃ W0, W0 = w.alloc (.cells a.cells 25) := ⟨_, rfl⟩
  have B : Hid (Below w.heap.size w W0) := Lib.hid (by rw [hW0]; exact bel16 w _)
  have L0 : Plk W0 w.heap.size a := by rw [hW0]; exact plk_new _ _
  obtain ⟨c0, c1, c2, c3, c4, c5, c6, c7, c8, c9, c10, c11, c12, c13⟩ := L0.all
  have R := Lib.hid L0
  have T := Lib.hid (hT.below B.out)
  clear L0 hT
  go_enter Tryd.func3, Tryd.ntmps3
  go_upto_region 1 with fail
  rw [← hW0]; clear hW0
  go_upto_region 8 with (first
    | (go_at_call 4; with_reducible refine (HA.out _).mono ?_; rintro x w1 ⟨rfl, hb⟩; have R := Lib.hid (R.out.keep hb); have T := Lib.hid (T.out.below hb); have B := Lib.hid (B.out.trans (hb.mono B.out.size)); clear hb; obtain ⟨c0, c1, c2, c3, c4, c5, c6, c7, c8, c9, c10, c11, c12, c13⟩ := R.out.all)
    | (go_at_call 5; with_reducible refine (HL.out _).mono ?_; rintro x w2 ⟨rfl, hb⟩; have R := Lib.hid (R.out.keep hb); have T := Lib.hid (T.out.below hb); have B := Lib.hid (B.out.trans (hb.mono B.out.size)); clear hb; obtain ⟨c0, c1, c2, c3, c4, c5, c6, c7, c8, c9, c10, c11, c12, c13⟩ := R.out.all)
    | (go_at_call 6; with_reducible refine (HK.out _).mono ?_; rintro x w3 ⟨rfl, hb⟩; have R := Lib.hid (R.out.keep hb); have T := Lib.hid (T.out.below hb); have B := Lib.hid (B.out.trans (hb.mono B.out.size)); clear hb; obtain ⟨c0, c1, c2, c3, c4, c5, c6, c7, c8, c9, c10, c11, c12, c13⟩ := R.out.all)
    | (go_at_call 7; with_reducible refine (HB.out _ T.out).mono ?_; rintro x w4 ⟨rfl, hb⟩; have R := Lib.hid (R.out.keep hb); have T := Lib.hid (T.out.below hb); have B := Lib.hid (B.out.trans (hb.mono B.out.size)); clear hb; obtain ⟨c0, c1, c2, c3, c4, c5, c6, c7, c8, c9, c10, c11, c12, c13⟩ := R.out.all)
    | (go_at_call 8; with_reducible refine (HP.out _).mono ?_; rintro x w5 ⟨rfl, hb⟩; have R := Lib.hid (R.out.keep hb); have T := Lib.hid (T.out.below hb); have B := Lib.hid (B.out.trans (hb.mono B.out.size)); clear hb; obtain ⟨c0, c1, c2, c3, c4, c5, c6, c7, c8, c9, c10, c11, c12, c13⟩ := R.out.all))
  have N9 : Plk (w5.alloc (.cells (#[.string ⟨#[]⟩, .string ⟨#[]⟩, .int .i64 0, .int .i64 0, .int .i64 0, .int .i64 0, .int .i64 0, .int .i64 0, .int .i64 0, .int .i64 0, .int .i64 0, .int .i64 0, .int .i64 0, .int .i64 0] : Array Value) 25)) w5.heap.size pl0 := plk_new w5 pl0
  have B9 := B.out.alloc B.out.size (.cells (#[.string ⟨#[]⟩, .string ⟨#[]⟩, .int .i64 0, .int .i64 0, .int .i64 0, .int .i64 0, .int .i64 0, .int .i64 0, .int .i64 0, .int .i64 0, .int .i64 0, .int .i64 0, .int .i64 0, .int .i64 0] : Array Value) 25)
  have T9 := T.out.below (bel16 w5 (.cells (#[.string ⟨#[]⟩, .string ⟨#[]⟩, .int .i64 0, .int .i64 0, .int .i64 0, .int .i64 0, .int .i64 0, .int .i64 0, .int .i64 0, .int .i64 0, .int .i64 0, .int .i64 0, .int .i64 0, .int .i64 0] : Array Value) 25))
  obtain ⟨q, hq⟩ : ∃ q, q = w5.heap.size := ⟨_, rfl⟩
  obtain ⟨W9, hW9⟩ : ∃ W9, W9 = w5.alloc (.cells (#[.string ⟨#[]⟩, .string ⟨#[]⟩, .int .i64 0, .int .i64 0, .int .i64 0, .int .i64 0, .int .i64 0, .int .i64 0, .int .i64 0, .int .i64 0, .int .i64 0, .int .i64 0, .int .i64 0, .int .i64 0] : Array Value) 25) := ⟨_, rfl⟩
  rw [← hW9] at N9 B9 T9
  rw [← hq] at N9
  rw [← hW9, ← hq]
  have R := Lib.hid N9
  have B := Lib.hid B9
  have T := Lib.hid T9
  clear hW9 hq B9 N9 T9
  have R9 : W9.cell? ⟨q, 0, none⟩ = some (.string ⟨#[]⟩) ∧ W9.cell? ⟨q, 1, none⟩ = some (.string ⟨#[]⟩) ∧ W9.cell? ⟨q, 2, none⟩ = some (.int .i64 0) ∧ W9.cell? ⟨q, 3, none⟩ = some (.int .i64 0) ∧ W9.cell? ⟨q, 4, none⟩ = some (.int .i64 0) ∧ W9.cell? ⟨q, 5, none⟩ = some (.int .i64 0) ∧ W9.cell? ⟨q, 6, none⟩ = some (.int .i64 0) ∧ W9.cell? ⟨q, 7, none⟩ = some (.int .i64 0) ∧ W9.cell? ⟨q, 8, none⟩ = some (.int .i64 0) ∧ W9.cell? ⟨q, 9, none⟩ = some (.int .i64 0) ∧ W9.cell? ⟨q, 10, none⟩ = some (.int .i64 0) ∧ W9.cell? ⟨q, 11, none⟩ = some (.int .i64 0) ∧ W9.cell? ⟨q, 12, none⟩ = some (.int .i64 0) ∧ W9.cell? ⟨q, 13, none⟩ = some (.int .i64 0) := R.out.all
  obtain ⟨c0, c1, c2, c3, c4, c5, c6, c7, c8, c9, c10, c11, c12, c13⟩ := R9
  go_wp2_with fail
  go_ret
  exact ⟨rfl, B.out⟩
set_option maxRecDepth 100000 in
set_option maxHeartbeats 8000000 in
theorem back17_ny (a Q : Pl) (s : ByteArray) (F G : Int) (f0 : F ≠ 0) (g0 : G ≠ 0) (w : World) (hT : Tab w) (hs : s.size ≤ 200)
    (HL : Hid (∀ w, Calls Tryd.prog 5 #[.agg #[.string ⟨a.N.toArray⟩, .string ⟨a.S.toArray⟩, .int .i64 a.O, .int .i64 a.A, .int .i64 a.B.K, .int .i64 a.B.M, .int .i64 a.B.W, .int .i64 a.B.D, .int .i64 a.B.T, .int .i64 a.E.K, .int .i64 a.E.M, .int .i64 a.E.W, .int .i64 a.E.D, .int .i64 a.E.T]] w fun x w' => x = .returned (.bool false) ∧ Below w.heap.size w w'))
    (HK : Hid (∀ w, Calls Tryd.prog 6 #[.agg #[.string ⟨a.N.toArray⟩, .string ⟨a.S.toArray⟩, .int .i64 a.O, .int .i64 a.A, .int .i64 a.B.K, .int .i64 a.B.M, .int .i64 a.B.W, .int .i64 a.B.D, .int .i64 a.B.T, .int .i64 a.E.K, .int .i64 a.E.M, .int .i64 a.E.W, .int .i64 a.E.D, .int .i64 a.E.T]] w fun x w' => x = .returned (ev F) ∧ Below w.heap.size w w'))
    (HP : Hid (∀ w, Calls Tryd.prog 8 #[.string s] w fun x w' => x = .returned (.tuple #[.agg #[.string ⟨Q.N.toArray⟩, .string ⟨Q.S.toArray⟩, .int .i64 Q.O, .int .i64 Q.A, .int .i64 Q.B.K, .int .i64 Q.B.M, .int .i64 Q.B.W, .int .i64 Q.B.D, .int .i64 Q.B.T, .int .i64 Q.E.K, .int .i64 Q.E.M, .int .i64 Q.E.W, .int .i64 Q.E.D, .int .i64 Q.E.T], ev 0]) ∧ Below w.heap.size w w'))
    (HKQ : Hid (∀ w, Calls Tryd.prog 6 #[.agg #[.string ⟨Q.N.toArray⟩, .string ⟨Q.S.toArray⟩, .int .i64 Q.O, .int .i64 Q.A, .int .i64 Q.B.K, .int .i64 Q.B.M, .int .i64 Q.B.W, .int .i64 Q.B.D, .int .i64 Q.B.T, .int .i64 Q.E.K, .int .i64 Q.E.M, .int .i64 Q.E.W, .int .i64 Q.E.D, .int .i64 Q.E.T]] w fun x w' => x = .returned (ev 0) ∧ Below w.heap.size w w'))
    (HBQ : Hid (∀ w, Tab w → Calls Tryd.prog 7 #[.agg #[.string ⟨Q.N.toArray⟩, .string ⟨Q.S.toArray⟩, .int .i64 Q.O, .int .i64 Q.A, .int .i64 Q.B.K, .int .i64 Q.B.M, .int .i64 Q.B.W, .int .i64 Q.B.D, .int .i64 Q.B.T, .int .i64 Q.E.K, .int .i64 Q.E.M, .int .i64 Q.E.W, .int .i64 Q.E.D, .int .i64 Q.E.T]] w fun x w' => x = .returned (.bool true) ∧ Below w.heap.size w w'))
    : Calls Tryd.prog 3 #[.agg a.cells, .string s] w fun x w' => x = .returned (.bool true) ∧ Below w.heap.size w w' := by
  have HA := Lib.hid (fun w => alive17_any w)
  have q0 := fun op t W x k => guard_ev op t W x k
  have q1 := fun W k => eql_ev W k
  have q2 := fun W k => neq_ev W k
  have t1 : decide ((200 : Int) < (s.size : Int)) = false := decide_eq_false (by omega)
  have f1 := eq_no f0
  have g1 := eq_no g0
  have f2 := ne_yes f0
  have g2 := ne_yes g0
  clear f0 g0
  obtain ⟨W0, hW0⟩ : ∃ W0, W0 = w.alloc (.cells a.cells 25) := ⟨_, rfl⟩
  have B : Hid (Below w.heap.size w W0) := Lib.hid (by rw [hW0]; exact bel16 w _)
  have L0 : Plk W0 w.heap.size a := by rw [hW0]; exact plk_new _ _
  obtain ⟨c0, c1, c2, c3, c4, c5, c6, c7, c8, c9, c10, c11, c12, c13⟩ := L0.all
  have R := Lib.hid L0
  have T := Lib.hid (hT.below B.out)
  clear L0 hT
  go_enter Tryd.func3, Tryd.ntmps3
  go_upto_region 1 with fail
  rw [← hW0]; clear hW0
  go_upto_region 8 with (first
    | (go_at_call 4; with_reducible refine (HA.out _).mono ?_; rintro x w1 ⟨rfl, hb⟩; have R := Lib.hid (R.out.keep hb); have T := Lib.hid (T.out.below hb); have B := Lib.hid (B.out.trans (hb.mono B.out.size)); clear hb; obtain ⟨c0, c1, c2, c3, c4, c5, c6, c7, c8, c9, c10, c11, c12, c13⟩ := R.out.all)
    | (go_at_call 5; with_reducible refine (HL.out _).mono ?_; rintro x w2 ⟨rfl, hb⟩; have R := Lib.hid (R.out.keep hb); have T := Lib.hid (T.out.below hb); have B := Lib.hid (B.out.trans (hb.mono B.out.size)); clear hb; obtain ⟨c0, c1, c2, c3, c4, c5, c6, c7, c8, c9, c10, c11, c12, c13⟩ := R.out.all)
    | (go_at_call 6; with_reducible refine (HK.out _).mono ?_; rintro x w3 ⟨rfl, hb⟩; have R := Lib.hid (R.out.keep hb); have T := Lib.hid (T.out.below hb); have B := Lib.hid (B.out.trans (hb.mono B.out.size)); clear hb; obtain ⟨c0, c1, c2, c3, c4, c5, c6, c7, c8, c9, c10, c11, c12, c13⟩ := R.out.all)
    | (go_at_call 8; with_reducible refine (HP.out _).mono ?_; rintro x w5 ⟨rfl, hb⟩; have R := Lib.hid (R.out.keep hb); have T := Lib.hid (T.out.below hb); have B := Lib.hid (B.out.trans (hb.mono B.out.size)); clear hb; obtain ⟨c0, c1, c2, c3, c4, c5, c6, c7, c8, c9, c10, c11, c12, c13⟩ := R.out.all))
  have N9 : Plk (w5.alloc (.cells #[.string ⟨Q.N.toArray⟩, .string ⟨Q.S.toArray⟩, .int .i64 Q.O, .int .i64 Q.A, .int .i64 Q.B.K, .int .i64 Q.B.M, .int .i64 Q.B.W, .int .i64 Q.B.D, .int .i64 Q.B.T, .int .i64 Q.E.K, .int .i64 Q.E.M, .int .i64 Q.E.W, .int .i64 Q.E.D, .int .i64 Q.E.T] 25)) w5.heap.size Q := plk_new w5 Q
  have B9 := B.out.alloc B.out.size (.cells #[.string ⟨Q.N.toArray⟩, .string ⟨Q.S.toArray⟩, .int .i64 Q.O, .int .i64 Q.A, .int .i64 Q.B.K, .int .i64 Q.B.M, .int .i64 Q.B.W, .int .i64 Q.B.D, .int .i64 Q.B.T, .int .i64 Q.E.K, .int .i64 Q.E.M, .int .i64 Q.E.W, .int .i64 Q.E.D, .int .i64 Q.E.T] 25)
  have T9 := T.out.below (bel16 w5 (.cells #[.string ⟨Q.N.toArray⟩, .string ⟨Q.S.toArray⟩, .int .i64 Q.O, .int .i64 Q.A, .int .i64 Q.B.K, .int .i64 Q.B.M, .int .i64 Q.B.W, .int .i64 Q.B.D, .int .i64 Q.B.T, .int .i64 Q.E.K, .int .i64 Q.E.M, .int .i64 Q.E.W, .int .i64 Q.E.D, .int .i64 Q.E.T] 25))
  obtain ⟨q, hq⟩ : ∃ q, q = w5.heap.size := ⟨_, rfl⟩
  obtain ⟨W9, hW9⟩ : ∃ W9, W9 = w5.alloc (.cells #[.string ⟨Q.N.toArray⟩, .string ⟨Q.S.toArray⟩, .int .i64 Q.O, .int .i64 Q.A, .int .i64 Q.B.K, .int .i64 Q.B.M, .int .i64 Q.B.W, .int .i64 Q.B.D, .int .i64 Q.B.T, .int .i64 Q.E.K, .int .i64 Q.E.M, .int .i64 Q.E.W, .int .i64 Q.E.D, .int .i64 Q.E.T] 25) := ⟨_, rfl⟩
  rw [← hW9] at N9 B9 T9
  rw [← hq] at N9
  rw [← hW9, ← hq]
  have R := Lib.hid N9
  have B := Lib.hid B9
  have T := Lib.hid T9
  clear hW9 hq B9 N9 T9
  obtain ⟨c0, c1, c2, c3, c4, c5, c6, c7, c8, c9, c10, c11, c12, c13⟩ := R.out.all
  go_wp2_with (first
    | (go_at_call 6; with_reducible refine (HKQ.out _).mono ?_; rintro x w6 ⟨rfl, hb⟩; have R := Lib.hid (R.out.keep hb); have T := Lib.hid (T.out.below hb); have B := Lib.hid (B.out.trans (hb.mono B.out.size)); clear hb; obtain ⟨c0, c1, c2, c3, c4, c5, c6, c7, c8, c9, c10, c11, c12, c13⟩ := R.out.all)
    | (go_at_call 7; with_reducible refine (HBQ.out _ T.out).mono ?_; rintro x w7 ⟨rfl, hb⟩; have R := Lib.hid (R.out.keep hb); have T := Lib.hid (T.out.below hb); have B := Lib.hid (B.out.trans (hb.mono B.out.size)); clear hb; obtain ⟨c0, c1, c2, c3, c4, c5, c6, c7, c8, c9, c10, c11, c12, c13⟩ := R.out.all))
  go_ret
  exact ⟨rfl, B.out⟩
set_option maxRecDepth 100000 in
set_option maxHeartbeats 8000000 in
theorem back17_nn (a Q : Pl) (s : ByteArray) (F G : Int) (f0 : F ≠ 0) (g0 : G ≠ 0) (w : World) (hT : Tab w) (hs : s.size ≤ 200)
    (HL : Hid (∀ w, Calls Tryd.prog 5 #[.agg #[.string ⟨a.N.toArray⟩, .string ⟨a.S.toArray⟩, .int .i64 a.O, .int .i64 a.A, .int .i64 a.B.K, .int .i64 a.B.M, .int .i64 a.B.W, .int .i64 a.B.D, .int .i64 a.B.T, .int .i64 a.E.K, .int .i64 a.E.M, .int .i64 a.E.W, .int .i64 a.E.D, .int .i64 a.E.T]] w fun x w' => x = .returned (.bool false) ∧ Below w.heap.size w w'))
    (HK : Hid (∀ w, Calls Tryd.prog 6 #[.agg #[.string ⟨a.N.toArray⟩, .string ⟨a.S.toArray⟩, .int .i64 a.O, .int .i64 a.A, .int .i64 a.B.K, .int .i64 a.B.M, .int .i64 a.B.W, .int .i64 a.B.D, .int .i64 a.B.T, .int .i64 a.E.K, .int .i64 a.E.M, .int .i64 a.E.W, .int .i64 a.E.D, .int .i64 a.E.T]] w fun x w' => x = .returned (ev F) ∧ Below w.heap.size w w'))
    (HP : Hid (∀ w, Calls Tryd.prog 8 #[.string s] w fun x w' => x = .returned (.tuple #[.agg #[.string ⟨#[]⟩, .string ⟨#[]⟩, .int .i64 0, .int .i64 0, .int .i64 0, .int .i64 0, .int .i64 0, .int .i64 0, .int .i64 0, .int .i64 0, .int .i64 0, .int .i64 0, .int .i64 0, .int .i64 0], ev G]) ∧ Below w.heap.size w w'))
    : Calls Tryd.prog 3 #[.agg a.cells, .string s] w fun x w' => x = .returned (.bool true) ∧ Below w.heap.size w w' := by
  have HA := Lib.hid (fun w => alive17_any w)
  have q0 := fun op t W x k => guard_ev op t W x k
  have q1 := fun W k => eql_ev W k
  have q2 := fun W k => neq_ev W k
  have t1 : decide ((200 : Int) < (s.size : Int)) = false := decide_eq_false (by omega)
  have f1 := eq_no f0
  have g1 := eq_no g0
  have f2 := ne_yes f0
  have g2 := ne_yes g0
  clear f0 g0
  have eq := fun w => eq_plan ⟨#[]⟩ ⟨#[]⟩ 0 0 0 0 0 0 0 0 0 0 0 0 w
  obtain ⟨W0, hW0⟩ : ∃ W0, W0 = w.alloc (.cells a.cells 25) := ⟨_, rfl⟩
  have B : Hid (Below w.heap.size w W0) := Lib.hid (by rw [hW0]; exact bel16 w _)
  have L0 : Plk W0 w.heap.size a := by rw [hW0]; exact plk_new _ _
  obtain ⟨c0, c1, c2, c3, c4, c5, c6, c7, c8, c9, c10, c11, c12, c13⟩ := L0.all
  have R := Lib.hid L0
  have T := Lib.hid (hT.below B.out)
  clear L0 hT
  go_enter Tryd.func3, Tryd.ntmps3
  go_upto_region 1 with fail
  rw [← hW0]; clear hW0
  go_upto_region 8 with (first
    | (go_at_call 4; with_reducible refine (HA.out _).mono ?_; rintro x w1 ⟨rfl, hb⟩; have R := Lib.hid (R.out.keep hb); have T := Lib.hid (T.out.below hb); have B := Lib.hid (B.out.trans (hb.mono B.out.size)); clear hb; obtain ⟨c0, c1, c2, c3, c4, c5, c6, c7, c8, c9, c10, c11, c12, c13⟩ := R.out.all)
    | (go_at_call 5; with_reducible refine (HL.out _).mono ?_; rintro x w2 ⟨rfl, hb⟩; have R := Lib.hid (R.out.keep hb); have T := Lib.hid (T.out.below hb); have B := Lib.hid (B.out.trans (hb.mono B.out.size)); clear hb; obtain ⟨c0, c1, c2, c3, c4, c5, c6, c7, c8, c9, c10, c11, c12, c13⟩ := R.out.all)
    | (go_at_call 6; with_reducible refine (HK.out _).mono ?_; rintro x w3 ⟨rfl, hb⟩; have R := Lib.hid (R.out.keep hb); have T := Lib.hid (T.out.below hb); have B := Lib.hid (B.out.trans (hb.mono B.out.size)); clear hb; obtain ⟨c0, c1, c2, c3, c4, c5, c6, c7, c8, c9, c10, c11, c12, c13⟩ := R.out.all)
    | (go_at_call 8; with_reducible refine (HP.out _).mono ?_; rintro x w5 ⟨rfl, hb⟩; have R := Lib.hid (R.out.keep hb); have T := Lib.hid (T.out.below hb); have B := Lib.hid (B.out.trans (hb.mono B.out.size)); clear hb; obtain ⟨c0, c1, c2, c3, c4, c5, c6, c7, c8, c9, c10, c11, c12, c13⟩ := R.out.all))
  have N9 : Plk (w5.alloc (.cells (#[.string ⟨#[]⟩, .string ⟨#[]⟩, .int .i64 0, .int .i64 0, .int .i64 0, .int .i64 0, .int .i64 0, .int .i64 0, .int .i64 0, .int .i64 0, .int .i64 0, .int .i64 0, .int .i64 0, .int .i64 0] : Array Value) 25)) w5.heap.size pl0 := plk_new w5 pl0
  have B9 := B.out.alloc B.out.size (.cells (#[.string ⟨#[]⟩, .string ⟨#[]⟩, .int .i64 0, .int .i64 0, .int .i64 0, .int .i64 0, .int .i64 0, .int .i64 0, .int .i64 0, .int .i64 0, .int .i64 0, .int .i64 0, .int .i64 0, .int .i64 0] : Array Value) 25)
  have T9 := T.out.below (bel16 w5 (.cells (#[.string ⟨#[]⟩, .string ⟨#[]⟩, .int .i64 0, .int .i64 0, .int .i64 0, .int .i64 0, .int .i64 0, .int .i64 0, .int .i64 0, .int .i64 0, .int .i64 0, .int .i64 0, .int .i64 0, .int .i64 0] : Array Value) 25))
  obtain ⟨q, hq⟩ : ∃ q, q = w5.heap.size := ⟨_, rfl⟩
  obtain ⟨W9, hW9⟩ : ∃ W9, W9 = w5.alloc (.cells (#[.string ⟨#[]⟩, .string ⟨#[]⟩, .int .i64 0, .int .i64 0, .int .i64 0, .int .i64 0, .int .i64 0, .int .i64 0, .int .i64 0, .int .i64 0, .int .i64 0, .int .i64 0, .int .i64 0, .int .i64 0] : Array Value) 25) := ⟨_, rfl⟩
  rw [← hW9] at N9 B9 T9
  rw [← hq] at N9
  rw [← hW9, ← hq]
  have R := Lib.hid N9
  have B := Lib.hid B9
  have T := Lib.hid T9
  clear hW9 hq B9 N9 T9
  have R9 : W9.cell? ⟨q, 0, none⟩ = some (.string ⟨#[]⟩) ∧ W9.cell? ⟨q, 1, none⟩ = some (.string ⟨#[]⟩) ∧ W9.cell? ⟨q, 2, none⟩ = some (.int .i64 0) ∧ W9.cell? ⟨q, 3, none⟩ = some (.int .i64 0) ∧ W9.cell? ⟨q, 4, none⟩ = some (.int .i64 0) ∧ W9.cell? ⟨q, 5, none⟩ = some (.int .i64 0) ∧ W9.cell? ⟨q, 6, none⟩ = some (.int .i64 0) ∧ W9.cell? ⟨q, 7, none⟩ = some (.int .i64 0) ∧ W9.cell? ⟨q, 8, none⟩ = some (.int .i64 0) ∧ W9.cell? ⟨q, 9, none⟩ = some (.int .i64 0) ∧ W9.cell? ⟨q, 10, none⟩ = some (.int .i64 0) ∧ W9.cell? ⟨q, 11, none⟩ = some (.int .i64 0) ∧ W9.cell? ⟨q, 12, none⟩ = some (.int .i64 0) ∧ W9.cell? ⟨q, 13, none⟩ = some (.int .i64 0) := R.out.all
  obtain ⟨c0, c1, c2, c3, c4, c5, c6, c7, c8, c9, c10, c11, c12, c13⟩ := R9
  go_wp2_with fail
  go_ret
  exact ⟨rfl, B.out⟩
theorem posback_any (a : Pl) (s : ByteArray) (w : World) (hT : Tab w) (hn : a.N.length ≤ maxLen) (hS : a.S.length ≤ maxLen) (hs : s.size ≤ maxLen) :
    Calls Tryd.prog 3 #[.agg a.cells, .string s] w fun x w' => x = .returned (.bool true) ∧ Below w.heap.size w w' := by
  have HL := fun w => long17_any a w hn hS
  by_cases h1 : (decide (60 < a.N.length) || decide (60 < a.S.length)) = true
  · rw [h1] at HL
    exact back17_l1 a s w hT (Lib.hid HL)
  · have h1' : (decide (60 < a.N.length) || decide (60 < a.S.length)) = false := by simpa using h1
    rw [h1'] at HL
    simp only [Bool.or_eq_false_iff, decide_eq_false_iff_not] at h1'
    by_cases h2 : 200 < s.size
    · exact back17_l2 a s w hT h2 hs (Lib.hid HL)
    · have h3 : s.size ≤ 200 := by omega
      have HK := fun w => plcheck_any a w (by omega) (by omega)
      have HP := fun w => parse17_any s w (by omega)
      by_cases e : psE s.data.toList = 0
      · have pz := ps_zero e
        have z := plE_zero pz
        have n1 := (nmP_bd z.1).2.1
        have n2 : (psV s.data.toList).S.length ≤ 16 := by
          rcases z.2.2.2 with c | c
          · rw [c.1]; exact Nat.zero_le _
          · exact (nmP_bd c.2.1).2.1
        have HKQ := fun w => plcheck_any (psV s.data.toList) w (by omega) (by omega)
        have HBQ := fun w t => back17_any (psV s.data.toList) w t pz
        rw [pz] at HKQ
        rw [e] at HP
        by_cases d : plE a = 0
        · rw [d] at HK
          exact back17_yy a _ s 1 1 (by decide) (by decide) w hT h3 (Lib.hid HL) (Lib.hid HK) (Lib.hid (fun w t => back17_any a w t d)) (Lib.hid HP) (Lib.hid HKQ) (Lib.hid HBQ)
        · exact back17_ny a _ s _ 1 d (by decide) w hT h3 (Lib.hid HL) (Lib.hid HK) (Lib.hid HP) (Lib.hid HKQ) (Lib.hid HBQ)
      · rw [ps_bad e] at HP
        by_cases d : plE a = 0
        · rw [d] at HK
          exact back17_yn a pl0 s 1 _ (by decide) e w hT h3 (Lib.hid HL) (Lib.hid HK) (Lib.hid (fun w t => back17_any a w t d)) (Lib.hid HP)
        · exact back17_nn a pl0 s _ _ d e w hT h3 (Lib.hid HL) (Lib.hid HK) (Lib.hid HP)
end Go.Proofs.YtkhcneacjnpcnaaDoor
