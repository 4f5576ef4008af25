/- Merged: PosQ. -/
import Derived.Test.YtkhcneacjnpcnaaGreatDoorGPosixChecks50
import Derived.Test.YtkhcneacjnpcnaaGreatDoorGPosixChecks51
namespace Go.Proofs.YtkhcneacjnpcnaaGreatDoor
open Go.RowKit
set_option linter.unusedVariables false
set_option linter.unusedSimpArgs false

set_option maxRecDepth 100000 in
set_option maxHeartbeats 4000000 in
theorem alive17_any (w : World) : Calls Tryz.prog 4 #[] w fun x w' => x = .returned (.bool true) ∧ Below w.heap.size w w' := by
  have q0 := fun op t W x k => guard_ev op t W x k
  have q1 := fun W k => eql_ev W k
  have q2 := fun W k => neq_ev W k
  have HP := parse17_any ⟨#[69, 83, 84, 53, 69, 68, 84, 44, 77, 51, 46, 50, 46, 48, 44, 77, 49, 49, 46, 49, 46, 48]⟩ w (by decide)
  rw [show (⟨#[69, 83, 84, 53, 69, 68, 84, 44, 77, 51, 46, 50, 46, 48, 44, 77, 49, 49, 46, 49, 46, 48]⟩ : ByteArray).data.toList = aL from rfl, ps_alive.1, ps_alive.2] at HP
  have HP : Hid (Calls Tryz.prog 16 #[.string ⟨#[69, 83, 84, 53, 69, 68, 84, 44, 77, 51, 46, 50, 46, 48, 44, 77, 49, 49, 46, 49, 46, 48]⟩] w fun x w' => x = .returned (.tuple #[.agg #[.string ⟨#[69, 83, 84]⟩, .string ⟨#[69, 68, 84]⟩, .int .i64 (-18000), .int .i64 (-14400), .int .i64 3, .int .i64 3, .int .i64 2, .int .i64 0, .int .i64 7200, .int .i64 3, .int .i64 11, .int .i64 1, .int .i64 0, .int .i64 7200], ev 0]) ∧ Below w.heap.size w w') := Lib.hid HP
  go_enter Tryz.func4, Tryz.ntmps4
  go_wp2_with (go_at_call 16; refine HP.out.mono ?_; rintro x w1 ⟨rfl, hb⟩; have B := Lib.hid hb; clear hb)
  go_ret
  exact ⟨rfl, B.out.alloc B.out.size _⟩
set_option maxRecDepth 100000 in
set_option maxHeartbeats 16000000 in
theorem chk17_l1 (a : Pl) (nm : ByteArray) (off : Int) (w : World) (hT : Tab w)
    (HL : Hid (∀ w, Calls Tryz.prog 5 #[.agg #[.string ⟨a.N.toArray⟩, .string ⟨a.S.toArray⟩, .int .i64 a.O, .int .i64 a.A, .int .i64 a.B.K, .int .i64 a.B.M, .int .i64 a.B.W, .int .i64 a.B.D, .int .i64 a.B.T, .int .i64 a.E.K, .int .i64 a.E.M, .int .i64 a.E.W, .int .i64 a.E.D, .int .i64 a.E.T]] w fun x w' => x = .returned (.bool true) ∧ Below w.heap.size w w'))
    : Calls Tryz.prog 3 #[.agg a.cells, .string nm, .int .i64 off] w fun x w' => x = .returned (.bool true) ∧ Below w.heap.size w w' := by
  obtain ⟨W0, hW0⟩ : ∃ W0, W0 = w.alloc (.cells a.cells 25) := ⟨_, rfl⟩
  have B : Hid (Below w.heap.size w W0) := Lib.hid (by rw [hW0]; exact bel16 w _)
  have L0 : Plk W0 w.heap.size a := by rw [hW0]; exact plk_new _ _
  obtain ⟨c0, c1, c2, c3, c4, c5, c6, c7, c8, c9, c10, c11, c12, c13⟩ := L0.all
  have R := Lib.hid L0
  have T := Lib.hid (hT.below B.out)
  clear L0 hT
  have HA := Lib.hid (fun w => alive17_any w)
  go_enter Tryz.func3, Tryz.ntmps3
  go_upto_region 1 with fail
  rw [← hW0]; clear hW0
  go_wp2_with (first
    | (go_at_call 4; with_reducible refine (HA.out _).mono ?_; rintro x w1 ⟨rfl, hb⟩; have R := Lib.hid (R.out.keep hb); have T := Lib.hid (T.out.below hb); have B := Lib.hid (B.out.trans (hb.mono B.out.size)); clear hb; obtain ⟨c0, c1, c2, c3, c4, c5, c6, c7, c8, c9, c10, c11, c12, c13⟩ := R.out.all)
    | (go_at_call 5; with_reducible refine (HL.out _).mono ?_; rintro x w2 ⟨rfl, hb⟩; have R := Lib.hid (R.out.keep hb); have T := Lib.hid (T.out.below hb); have B := Lib.hid (B.out.trans (hb.mono B.out.size)); clear hb; obtain ⟨c0, c1, c2, c3, c4, c5, c6, c7, c8, c9, c10, c11, c12, c13⟩ := R.out.all))
  go_ret
  exact ⟨rfl, B.out⟩
set_option maxRecDepth 100000 in
set_option maxHeartbeats 16000000 in
theorem chk17_l2 (a : Pl) (nm : ByteArray) (off : Int) (w : World) (hT : Tab w) (hs : 60 < nm.size) (hs2 : nm.size ≤ maxLen)
    (HL : Hid (∀ w, Calls Tryz.prog 5 #[.agg #[.string ⟨a.N.toArray⟩, .string ⟨a.S.toArray⟩, .int .i64 a.O, .int .i64 a.A, .int .i64 a.B.K, .int .i64 a.B.M, .int .i64 a.B.W, .int .i64 a.B.D, .int .i64 a.B.T, .int .i64 a.E.K, .int .i64 a.E.M, .int .i64 a.E.W, .int .i64 a.E.D, .int .i64 a.E.T]] w fun x w' => x = .returned (.bool false) ∧ Below w.heap.size w w'))
    : Calls Tryz.prog 3 #[.agg a.cells, .string nm, .int .i64 off] w fun x w' => x = .returned (.bool true) ∧ Below w.heap.size w w' := by
  unfold maxLen at hs2
  have t1 : decide ((60 : Int) < (nm.size : Int)) = true := decide_eq_true (by omega)
  clear hs
  obtain ⟨W0, hW0⟩ : ∃ W0, W0 = w.alloc (.cells a.cells 25) := ⟨_, rfl⟩
  have B : Hid (Below w.heap.size w W0) := Lib.hid (by rw [hW0]; exact bel16 w _)
  have L0 : Plk W0 w.heap.size a := by rw [hW0]; exact plk_new _ _
  obtain ⟨c0, c1, c2, c3, c4, c5, c6, c7, c8, c9, c10, c11, c12, c13⟩ := L0.all
  have R := Lib.hid L0
  have T := Lib.hid (hT.below B.out)
  clear L0 hT
  have HA := Lib.hid (fun w => alive17_any w)
  go_enter Tryz.func3, Tryz.ntmps3
  go_upto_region 1 with fail
  rw [← hW0]; clear hW0
  go_wp2_with (first
    | (go_at_call 4; with_reducible refine (HA.out _).mono ?_; rintro x w1 ⟨rfl, hb⟩; have R := Lib.hid (R.out.keep hb); have T := Lib.hid (T.out.below hb); have B := Lib.hid (B.out.trans (hb.mono B.out.size)); clear hb; obtain ⟨c0, c1, c2, c3, c4, c5, c6, c7, c8, c9, c10, c11, c12, c13⟩ := R.out.all)
    | (go_at_call 5; with_reducible refine (HL.out _).mono ?_; rintro x w2 ⟨rfl, hb⟩; have R := Lib.hid (R.out.keep hb); have T := Lib.hid (T.out.below hb); have B := Lib.hid (B.out.trans (hb.mono B.out.size)); clear hb; obtain ⟨c0, c1, c2, c3, c4, c5, c6, c7, c8, c9, c10, c11, c12, c13⟩ := R.out.all))
  go_ret
  exact ⟨rfl, B.out⟩
set_option maxRecDepth 100000 in
set_option maxHeartbeats 16000000 in
theorem chk17_yy (a : Pl) (nm S : ByteArray) (off E G : Int) (n17 c17 : Bool) (e0 : E ≠ 0) (g0 : G ≠ 0) (w : World) (hT : Tab w) (hs : nm.size ≤ 60) (hc1 : decide ((0 : Int) < (a.S.length : Int)) = c17) (hc2 : decide (0 < a.S.length) = c17)
    (HL : Hid (∀ w, Calls Tryz.prog 5 #[.agg #[.string ⟨a.N.toArray⟩, .string ⟨a.S.toArray⟩, .int .i64 a.O, .int .i64 a.A, .int .i64 a.B.K, .int .i64 a.B.M, .int .i64 a.B.W, .int .i64 a.B.D, .int .i64 a.B.T, .int .i64 a.E.K, .int .i64 a.E.M, .int .i64 a.E.W, .int .i64 a.E.D, .int .i64 a.E.T]] w fun x w' => x = .returned (.bool false) ∧ Below w.heap.size w w'))
    (HD : Hid (∀ w, Calls Tryz.prog 7 #[.agg #[.string ⟨a.N.toArray⟩, .string ⟨a.S.toArray⟩, .int .i64 a.O, .int .i64 a.A, .int .i64 a.B.K, .int .i64 a.B.M, .int .i64 a.B.W, .int .i64 a.B.D, .int .i64 a.B.T, .int .i64 a.E.K, .int .i64 a.E.M, .int .i64 a.E.W, .int .i64 a.E.D, .int .i64 a.E.T]] w fun x w' => x = .returned (.agg #[.string ⟨a.N.toArray⟩, .string ⟨a.S.toArray⟩, .int .i64 a.O, .int .i64 a.A, .int .i64 a.B.K, .int .i64 a.B.M, .int .i64 a.B.W, .int .i64 a.B.D, .int .i64 a.B.T, .int .i64 a.E.K, .int .i64 a.E.M, .int .i64 a.E.W, .int .i64 a.E.D, .int .i64 a.E.T]) ∧ Below w.heap.size w w'))
    (HK : Hid (∀ w, Calls Tryz.prog 6 #[.agg #[.string ⟨a.N.toArray⟩, .string ⟨a.S.toArray⟩, .int .i64 a.O, .int .i64 a.A, .int .i64 a.B.K, .int .i64 a.B.M, .int .i64 a.B.W, .int .i64 a.B.D, .int .i64 a.B.T, .int .i64 a.E.K, .int .i64 a.E.M, .int .i64 a.E.W, .int .i64 a.E.D, .int .i64 a.E.T]] w fun x w' => x = .returned (.int .i64 0) ∧ Below w.heap.size w w'))
    (HU : Hid (∀ w, Tab w → Calls Tryz.prog 8 #[.agg #[.string ⟨a.N.toArray⟩, .string ⟨a.S.toArray⟩, .int .i64 a.O, .int .i64 a.A, .int .i64 a.B.K, .int .i64 a.B.M, .int .i64 a.B.W, .int .i64 a.B.D, .int .i64 a.B.T, .int .i64 a.E.K, .int .i64 a.E.M, .int .i64 a.E.W, .int .i64 a.E.D, .int .i64 a.E.T]] w fun x w' => x = .returned (.tuple #[.string S, ev 0]) ∧ Below w.heap.size w w'))
    (HV : Hid (∀ w, Calls Tryz.prog 9 #[.agg #[.string ⟨a.N.toArray⟩, .string ⟨a.S.toArray⟩, .int .i64 a.O, .int .i64 a.A, .int .i64 a.B.K, .int .i64 a.B.M, .int .i64 a.B.W, .int .i64 a.B.D, .int .i64 a.B.T, .int .i64 a.E.K, .int .i64 a.E.M, .int .i64 a.E.W, .int .i64 a.E.D, .int .i64 a.E.T]] w fun x w' => x = .returned (.string S) ∧ Below w.heap.size w w'))
    (HN1 : Hid (∀ w, Calls Tryz.prog 10 #[ev 0] w fun x w' => x = .returned (.int .i64 0) ∧ w = w'))
    (HX : Hid (∀ w, Calls Tryz.prog 11 #[.agg #[.string ⟨a.N.toArray⟩, .string ⟨a.S.toArray⟩, .int .i64 a.O, .int .i64 a.A, .int .i64 a.B.K, .int .i64 a.B.M, .int .i64 a.B.W, .int .i64 a.B.D, .int .i64 a.B.T, .int .i64 a.E.K, .int .i64 a.E.M, .int .i64 a.E.W, .int .i64 a.E.D, .int .i64 a.E.T]] w fun x w' => x = .returned (ev 0) ∧ Below w.heap.size w w'))
    (HC : Hid (∀ w, Calls Tryz.prog 12 #[.agg #[.string ⟨a.N.toArray⟩, .string ⟨a.S.toArray⟩, .int .i64 a.O, .int .i64 a.A, .int .i64 a.B.K, .int .i64 a.B.M, .int .i64 a.B.W, .int .i64 a.B.D, .int .i64 a.B.T, .int .i64 a.E.K, .int .i64 a.E.M, .int .i64 a.E.W, .int .i64 a.E.D, .int .i64 a.E.T]] w fun x w' => x = .returned (.bool c17) ∧ Below w.heap.size w w'))
    (HM1 : Hid (∀ w, Calls Tryz.prog 13 #[.string nm] w fun x w' => x = .returned (.bool n17) ∧ w = w'))
    (HM2 : Hid (∀ w, Calls Tryz.prog 14 #[.string nm] w fun x w' => x = .returned (.bool n17) ∧ w = w'))
    (HF : Hid (∀ w, Calls Tryz.prog 15 #[.string nm, .int .i64 off] w fun x w' => x = .returned (.tuple #[.agg (#[.string nm, .string ⟨#[]⟩, .int .i64 off, .int .i64 0, .int .i64 0, .int .i64 0, .int .i64 0, .int .i64 0, .int .i64 0, .int .i64 0, .int .i64 0, .int .i64 0, .int .i64 0, .int .i64 0] : Array Value), ev 0]) ∧ Below w.heap.size w w'))
    (HK2 : Hid (∀ w, Calls Tryz.prog 6 #[.agg (#[.string nm, .string ⟨#[]⟩, .int .i64 off, .int .i64 0, .int .i64 0, .int .i64 0, .int .i64 0, .int .i64 0, .int .i64 0, .int .i64 0, .int .i64 0, .int .i64 0, .int .i64 0, .int .i64 0] : Array Value)] w fun x w' => x = .returned (.int .i64 0) ∧ Below w.heap.size w w'))
    (HD2 : Hid (∀ w, Calls Tryz.prog 7 #[.agg (#[.string nm, .string ⟨#[]⟩, .int .i64 off, .int .i64 0, .int .i64 0, .int .i64 0, .int .i64 0, .int .i64 0, .int .i64 0, .int .i64 0, .int .i64 0, .int .i64 0, .int .i64 0, .int .i64 0] : Array Value)] w fun x w' => x = .returned (.agg (#[.string nm, .string ⟨#[]⟩, .int .i64 off, .int .i64 0, .int .i64 0, .int .i64 0, .int .i64 0, .int .i64 0, .int .i64 0, .int .i64 0, .int .i64 0, .int .i64 0, .int .i64 0, .int .i64 0] : Array Value)) ∧ Below w.heap.size w w'))
    : Calls Tryz.prog 3 #[.agg a.cells, .string nm, .int .i64 off] w fun x w' => x = .returned (.bool true) ∧ Below w.heap.size w w' := by
  have q0 := fun op t W x k => guard_ev op t W x k
  have q1 := fun W k => eql_ev W k
  have q2 := fun W k => neq_ev W k
  have t1 : decide ((60 : Int) < (nm.size : Int)) = false := decide_eq_false (by omega)
  have e1 := eq_no e0
  have g1 := eq_no g0
  have e2 := ne_yes e0
  have g2 := ne_yes g0
  have e3 : (E != E) = false := by simp
  have g3 : (G == G) = true := by simp
  have n3 : (n17 != n17) = false := by simp
  have c3 : (c17 != c17) = false := by simp
  clear e0 g0
  have eqd := fun w => eq_dplan nm ⟨#[]⟩ off 0 0 0 0 0 0 0 0 0 0 0 w
  obtain ⟨W0, hW0⟩ : ∃ W0, W0 = w.alloc (.cells a.cells 25) := ⟨_, rfl⟩
  have B : Hid (Below w.heap.size w W0) := Lib.hid (by rw [hW0]; exact bel16 w _)
  have L0 : Plk W0 w.heap.size a := by rw [hW0]; exact plk_new _ _
  obtain ⟨c0, c1, c2, c3, c4, c5, c6, c7, c8, c9, c10, c11, c12, c13⟩ := L0.all
  have R := Lib.hid L0
  have T := Lib.hid (hT.below B.out)
  clear L0 hT
  have HA := Lib.hid (fun w => alive17_any w)
  go_enter Tryz.func3, Tryz.ntmps3
  go_upto_region 1 with fail
  rw [← hW0]; clear hW0
  go_upto_region 10 with (first
    | (go_at_call 4; with_reducible refine (HA.out _).mono ?_; rintro x w1 ⟨rfl, hb⟩; have R := Lib.hid (R.out.keep hb); have T := Lib.hid (T.out.below hb); have B := Lib.hid (B.out.trans (hb.mono B.out.size)); clear hb; obtain ⟨c0, c1, c2, c3, c4, c5, c6, c7, c8, c9, c10, c11, c12, c13⟩ := R.out.all)
    | (go_at_call 5; with_reducible refine (HL.out _).mono ?_; rintro x w2 ⟨rfl, hb⟩; have R := Lib.hid (R.out.keep hb); have T := Lib.hid (T.out.below hb); have B := Lib.hid (B.out.trans (hb.mono B.out.size)); clear hb; obtain ⟨c0, c1, c2, c3, c4, c5, c6, c7, c8, c9, c10, c11, c12, c13⟩ := R.out.all)
    | (go_at_call 7; with_reducible refine (HD.out _).mono ?_; rintro x w3 ⟨rfl, hb⟩; have R := Lib.hid (R.out.keep hb); have T := Lib.hid (T.out.below hb); have B := Lib.hid (B.out.trans (hb.mono B.out.size)); clear hb; obtain ⟨c0, c1, c2, c3, c4, c5, c6, c7, c8, c9, c10, c11, c12, c13⟩ := R.out.all)
    | (go_at_call 6; with_reducible refine (HK.out _).mono ?_; rintro x w4 ⟨rfl, hb⟩; have R := Lib.hid (R.out.keep hb); have T := Lib.hid (T.out.below hb); have B := Lib.hid (B.out.trans (hb.mono B.out.size)); clear hb; obtain ⟨c0, c1, c2, c3, c4, c5, c6, c7, c8, c9, c10, c11, c12, c13⟩ := R.out.all)
    | (go_at_call 8; with_reducible refine (HU.out _ T.out).mono ?_; rintro x w5 ⟨rfl, hb⟩; have R := Lib.hid (R.out.keep hb); have T := Lib.hid (T.out.below hb); have B := Lib.hid (B.out.trans (hb.mono B.out.size)); clear hb; obtain ⟨c0, c1, c2, c3, c4, c5, c6, c7, c8, c9, c10, c11, c12, c13⟩ := R.out.all)
    | (go_at_call 9; with_reducible refine (HV.out _).mono ?_; rintro x w6 ⟨rfl, hb⟩; have R := Lib.hid (R.out.keep hb); have T := Lib.hid (T.out.below hb); have B := Lib.hid (B.out.trans (hb.mono B.out.size)); clear hb; obtain ⟨c0, c1, c2, c3, c4, c5, c6, c7, c8, c9, c10, c11, c12, c13⟩ := R.out.all))
  have HH : Hid (∀ W, Kq16 w6 W → (W.cell? ⟨w.heap.size, 0, none⟩ = some (.string ⟨a.N.toArray⟩) ∧ W.cell? ⟨w.heap.size, 1, none⟩ = some (.string ⟨a.S.toArray⟩) ∧ W.cell? ⟨w.heap.size, 2, none⟩ = some (.int .i64 a.O) ∧ W.cell? ⟨w.heap.size, 3, none⟩ = some (.int .i64 a.A) ∧ W.cell? ⟨w.heap.size, 4, none⟩ = some (.int .i64 a.B.K) ∧ W.cell? ⟨w.heap.size, 5, none⟩ = some (.int .i64 a.B.M) ∧ W.cell? ⟨w.heap.size, 6, none⟩ = some (.int .i64 a.B.W) ∧ W.cell? ⟨w.heap.size, 7, none⟩ = some (.int .i64 a.B.D) ∧ W.cell? ⟨w.heap.size, 8, none⟩ = some (.int .i64 a.B.T) ∧ W.cell? ⟨w.heap.size, 9, none⟩ = some (.int .i64 a.E.K) ∧ W.cell? ⟨w.heap.size, 10, none⟩ = some (.int .i64 a.E.M) ∧ W.cell? ⟨w.heap.size, 11, none⟩ = some (.int .i64 a.E.W) ∧ W.cell? ⟨w.heap.size, 12, none⟩ = some (.int .i64 a.E.D) ∧ W.cell? ⟨w.heap.size, 13, none⟩ = some (.int .i64 a.E.T)) ∧ Kq16 w6 W) := Lib.hid (fun W k => ⟨(R.out.keep k.bel).all, k⟩)
  have hKD : Kq16 w6 w6.drew := ⟨(Below.refl _ w6).drew⟩
  go_region_held3 (fun W => (W.cell? ⟨w.heap.size, 0, none⟩ = some (.string ⟨a.N.toArray⟩) ∧ W.cell? ⟨w.heap.size, 1, none⟩ = some (.string ⟨a.S.toArray⟩) ∧ W.cell? ⟨w.heap.size, 2, none⟩ = some (.int .i64 a.O) ∧ W.cell? ⟨w.heap.size, 3, none⟩ = some (.int .i64 a.A) ∧ W.cell? ⟨w.heap.size, 4, none⟩ = some (.int .i64 a.B.K) ∧ W.cell? ⟨w.heap.size, 5, none⟩ = some (.int .i64 a.B.M) ∧ W.cell? ⟨w.heap.size, 6, none⟩ = some (.int .i64 a.B.W) ∧ W.cell? ⟨w.heap.size, 7, none⟩ = some (.int .i64 a.B.D) ∧ W.cell? ⟨w.heap.size, 8, none⟩ = some (.int .i64 a.B.T) ∧ W.cell? ⟨w.heap.size, 9, none⟩ = some (.int .i64 a.E.K) ∧ W.cell? ⟨w.heap.size, 10, none⟩ = some (.int .i64 a.E.M) ∧ W.cell? ⟨w.heap.size, 11, none⟩ = some (.int .i64 a.E.W) ∧ W.cell? ⟨w.heap.size, 12, none⟩ = some (.int .i64 a.E.D) ∧ W.cell? ⟨w.heap.size, 13, none⟩ = some (.int .i64 a.E.T)) ∧ Kq16 w6 W)
    (exact HH.out _ (by assumption))
    (first
      | (go_at_call 10; go_split_ands; (with_reducible refine (HN1.out _).mono ?_); rintro er wra ⟨rfl, rfl⟩)
      | (go_at_call 11; go_split_ands; (with_reducible refine (HX.out _).mono ?_); rintro er wra ⟨rfl, hq⟩; have hkr : Kq16 w6 wra := Kq16.step (by assumption) hq; clear hq)
      | (go_at_call 12; go_split_ands; (with_reducible refine (HC.out _).mono ?_); rintro er wra ⟨rfl, hq⟩; have hkr : Kq16 w6 wra := Kq16.step (by assumption) hq; clear hq)
      | (go_at_call 13; go_split_ands; (with_reducible refine (HM1.out _).mono ?_); rintro er wra ⟨rfl, rfl⟩)
      | (go_at_call 14; go_split_ands; (with_reducible refine (HM2.out _).mono ?_); rintro er wra ⟨rfl, rfl⟩))
  have Q1 : Hid (Below w6.heap.size w6 _) := Lib.hid (Kq16.bel (W0 := w6) (by assumption))
  replace B := Lib.hid (B.out.trans (Q1.out.mono B.out.size))
  clear R T HH hKD
  go_upto_region 13 with (go_at_call 15; with_reducible refine (HF.out _).mono ?_; rintro x w7 ⟨rfl, hb⟩; have B := Lib.hid (B.out.trans (hb.mono B.out.size)); clear hb)
  have n8 : (w7.alloc (.cells (#[.string nm, .string ⟨#[]⟩, .int .i64 off, .int .i64 0, .int .i64 0, .int .i64 0, .int .i64 0, .int .i64 0, .int .i64 0, .int .i64 0, .int .i64 0, .int .i64 0, .int .i64 0, .int .i64 0] : Array Value) 25)).heap[w7.heap.size]? = some (.cells (#[.string nm, .string ⟨#[]⟩, .int .i64 off, .int .i64 0, .int .i64 0, .int .i64 0, .int .i64 0, .int .i64 0, .int .i64 0, .int .i64 0, .int .i64 0, .int .i64 0, .int .i64 0, .int .i64 0] : Array Value) 25 (0, 0)) := heap_alloc_new w7 _
  have b8 := B.out.alloc B.out.size (.cells (#[.string nm, .string ⟨#[]⟩, .int .i64 off, .int .i64 0, .int .i64 0, .int .i64 0, .int .i64 0, .int .i64 0, .int .i64 0, .int .i64 0, .int .i64 0, .int .i64 0, .int .i64 0, .int .i64 0] : Array Value) 25)
  obtain ⟨f, hf⟩ : ∃ f, f = w7.heap.size := ⟨_, rfl⟩
  obtain ⟨W8, hW8⟩ : ∃ W8, W8 = w7.alloc (.cells (#[.string nm, .string ⟨#[]⟩, .int .i64 off, .int .i64 0, .int .i64 0, .int .i64 0, .int .i64 0, .int .i64 0, .int .i64 0, .int .i64 0, .int .i64 0, .int .i64 0, .int .i64 0, .int .i64 0] : Array Value) 25) := ⟨_, rfl⟩
  rw [← hW8] at n8 b8
  rw [← hf] at n8
  rw [← hW8, ← hf]
  clear hW8 hf
  have m9 := bel_keep (bel16 W8 (.cells (#[.string nm, .string ⟨#[]⟩, .int .i64 off, .int .i64 0, .int .i64 0, .int .i64 0, .int .i64 0, .int .i64 0, .int .i64 0, .int .i64 0, .int .i64 0, .int .i64 0, .int .i64 0, .int .i64 0] : Array Value) 31)) n8
  have n9 : (W8.alloc (.cells (#[.string nm, .string ⟨#[]⟩, .int .i64 off, .int .i64 0, .int .i64 0, .int .i64 0, .int .i64 0, .int .i64 0, .int .i64 0, .int .i64 0, .int .i64 0, .int .i64 0, .int .i64 0, .int .i64 0] : Array Value) 31)).heap[W8.heap.size]? = some (.cells (#[.string nm, .string ⟨#[]⟩, .int .i64 off, .int .i64 0, .int .i64 0, .int .i64 0, .int .i64 0, .int .i64 0, .int .i64 0, .int .i64 0, .int .i64 0, .int .i64 0, .int .i64 0, .int .i64 0] : Array Value) 31 (0, 0)) := heap_alloc_new W8 _
  have b9 := b8.alloc b8.size (.cells (#[.string nm, .string ⟨#[]⟩, .int .i64 off, .int .i64 0, .int .i64 0, .int .i64 0, .int .i64 0, .int .i64 0, .int .i64 0, .int .i64 0, .int .i64 0, .int .i64 0, .int .i64 0, .int .i64 0] : Array Value) 31)
  go_upto_region 14 with fail
  obtain ⟨m, hm⟩ : ∃ m, m = W8.heap.size := ⟨_, rfl⟩
  obtain ⟨W9, hW9⟩ : ∃ W9, W9 = W8.alloc (.cells (#[.string nm, .string ⟨#[]⟩, .int .i64 off, .int .i64 0, .int .i64 0, .int .i64 0, .int .i64 0, .int .i64 0, .int .i64 0, .int .i64 0, .int .i64 0, .int .i64 0, .int .i64 0, .int .i64 0] : Array Value) 31) := ⟨_, rfl⟩
  rw [← hW9] at m9 n9 b9
  rw [← hm] at n9
  rw [← hW9, ← hm]
  clear hW9 hm n8 b8
  have R := Lib.hid m9
  have M := Lib.hid n9
  replace B := Lib.hid b9
  clear m9 n9 b9
  obtain ⟨f0, f1, f2, f3, f4, f5, f6, f7, f8, f9, f10, f11, f12, f13⟩ := see_block14 R.out
  obtain ⟨m0, m1, m2, m3, m4, m5, m6, m7, m8, m9, m10, m11, m12, m13⟩ := see_block14 M.out
  go_upto_region 17 with (go_at_call 6; with_reducible refine (HK2.out _).mono ?_; rintro x w10 ⟨rfl, hb⟩; have R := Lib.hid (bel_keep hb R.out); have M := Lib.hid (bel_keep hb M.out); have B := Lib.hid (B.out.trans (hb.mono B.out.size)); clear hb; obtain ⟨f0, f1, f2, f3, f4, f5, f6, f7, f8, f9, f10, f11, f12, f13⟩ := see_block14 R.out; obtain ⟨m0, m1, m2, m3, m4, m5, m6, m7, m8, m9, m10, m11, m12, m13⟩ := see_block14 M.out)
  have HH : Hid (∀ W, Kq16 w10 W → ((W.cell? ⟨f, 0, none⟩ = some (.string nm) ∧ W.cell? ⟨f, 1, none⟩ = some (.string ⟨#[]⟩) ∧ W.cell? ⟨f, 2, none⟩ = some (.int .i64 off) ∧ W.cell? ⟨f, 3, none⟩ = some (.int .i64 0) ∧ W.cell? ⟨f, 4, none⟩ = some (.int .i64 0) ∧ W.cell? ⟨f, 5, none⟩ = some (.int .i64 0) ∧ W.cell? ⟨f, 6, none⟩ = some (.int .i64 0) ∧ W.cell? ⟨f, 7, none⟩ = some (.int .i64 0) ∧ W.cell? ⟨f, 8, none⟩ = some (.int .i64 0) ∧ W.cell? ⟨f, 9, none⟩ = some (.int .i64 0) ∧ W.cell? ⟨f, 10, none⟩ = some (.int .i64 0) ∧ W.cell? ⟨f, 11, none⟩ = some (.int .i64 0) ∧ W.cell? ⟨f, 12, none⟩ = some (.int .i64 0) ∧ W.cell? ⟨f, 13, none⟩ = some (.int .i64 0)) ∧ (W.cell? ⟨m, 0, none⟩ = some (.string nm) ∧ W.cell? ⟨m, 1, none⟩ = some (.string ⟨#[]⟩) ∧ W.cell? ⟨m, 2, none⟩ = some (.int .i64 off) ∧ W.cell? ⟨m, 3, none⟩ = some (.int .i64 0) ∧ W.cell? ⟨m, 4, none⟩ = some (.int .i64 0) ∧ W.cell? ⟨m, 5, none⟩ = some (.int .i64 0) ∧ W.cell? ⟨m, 6, none⟩ = some (.int .i64 0) ∧ W.cell? ⟨m, 7, none⟩ = some (.int .i64 0) ∧ W.cell? ⟨m, 8, none⟩ = some (.int .i64 0) ∧ W.cell? ⟨m, 9, none⟩ = some (.int .i64 0) ∧ W.cell? ⟨m, 10, none⟩ = some (.int .i64 0) ∧ W.cell? ⟨m, 11, none⟩ = some (.int .i64 0) ∧ W.cell? ⟨m, 12, none⟩ = some (.int .i64 0) ∧ W.cell? ⟨m, 13, none⟩ = some (.int .i64 0))) ∧ Kq16 w10 W) := Lib.hid (fun W k => ⟨⟨see_block14 (bel_keep k.bel R.out), see_block14 (bel_keep k.bel M.out)⟩, k⟩)
  have hKD : Kq16 w10 w10.drew := ⟨(Below.refl _ w10).drew⟩
  go_region_held3 (fun W => ((W.cell? ⟨f, 0, none⟩ = some (.string nm) ∧ W.cell? ⟨f, 1, none⟩ = some (.string ⟨#[]⟩) ∧ W.cell? ⟨f, 2, none⟩ = some (.int .i64 off) ∧ W.cell? ⟨f, 3, none⟩ = some (.int .i64 0) ∧ W.cell? ⟨f, 4, none⟩ = some (.int .i64 0) ∧ W.cell? ⟨f, 5, none⟩ = some (.int .i64 0) ∧ W.cell? ⟨f, 6, none⟩ = some (.int .i64 0) ∧ W.cell? ⟨f, 7, none⟩ = some (.int .i64 0) ∧ W.cell? ⟨f, 8, none⟩ = some (.int .i64 0) ∧ W.cell? ⟨f, 9, none⟩ = some (.int .i64 0) ∧ W.cell? ⟨f, 10, none⟩ = some (.int .i64 0) ∧ W.cell? ⟨f, 11, none⟩ = some (.int .i64 0) ∧ W.cell? ⟨f, 12, none⟩ = some (.int .i64 0) ∧ W.cell? ⟨f, 13, none⟩ = some (.int .i64 0)) ∧ (W.cell? ⟨m, 0, none⟩ = some (.string nm) ∧ W.cell? ⟨m, 1, none⟩ = some (.string ⟨#[]⟩) ∧ W.cell? ⟨m, 2, none⟩ = some (.int .i64 off) ∧ W.cell? ⟨m, 3, none⟩ = some (.int .i64 0) ∧ W.cell? ⟨m, 4, none⟩ = some (.int .i64 0) ∧ W.cell? ⟨m, 5, none⟩ = some (.int .i64 0) ∧ W.cell? ⟨m, 6, none⟩ = some (.int .i64 0) ∧ W.cell? ⟨m, 7, none⟩ = some (.int .i64 0) ∧ W.cell? ⟨m, 8, none⟩ = some (.int .i64 0) ∧ W.cell? ⟨m, 9, none⟩ = some (.int .i64 0) ∧ W.cell? ⟨m, 10, none⟩ = some (.int .i64 0) ∧ W.cell? ⟨m, 11, none⟩ = some (.int .i64 0) ∧ W.cell? ⟨m, 12, none⟩ = some (.int .i64 0) ∧ W.cell? ⟨m, 13, none⟩ = some (.int .i64 0))) ∧ Kq16 w10 W)
    (exact HH.out _ (by assumption))
    ((go_at_call 7; go_split_ands; (with_reducible refine (HD2.out _).mono ?_); rintro er wrb ⟨rfl, hq⟩; have hkr : Kq16 w10 wrb := Kq16.step (by assumption) hq; clear hq))
  have Q1 : Hid (Below w10.heap.size w10 _) := Lib.hid (Kq16.bel (W0 := w10) (by assumption))
  replace B := Lib.hid (B.out.trans (Q1.out.mono B.out.size))
  go_wp2_with fail
  go_ret
  exact ⟨rfl, B.out⟩
set_option maxRecDepth 100000 in
set_option maxHeartbeats 16000000 in
theorem chk17_yn (a : Pl) (nm S : ByteArray) (off E G : Int) (n17 c17 : Bool) (e0 : E ≠ 0) (g0 : G ≠ 0) (w : World) (hT : Tab w) (hs : nm.size ≤ 60) (hc1 : decide ((0 : Int) < (a.S.length : Int)) = c17) (hc2 : decide (0 < a.S.length) = c17)
    (HL : Hid (∀ w, Calls Tryz.prog 5 #[.agg #[.string ⟨a.N.toArray⟩, .string ⟨a.S.toArray⟩, .int .i64 a.O, .int .i64 a.A, .int .i64 a.B.K, .int .i64 a.B.M, .int .i64 a.B.W, .int .i64 a.B.D, .int .i64 a.B.T, .int .i64 a.E.K, .int .i64 a.E.M, .int .i64 a.E.W, .int .i64 a.E.D, .int .i64 a.E.T]] w fun x w' => x = .returned (.bool false) ∧ Below w.heap.size w w'))
    (HD : Hid (∀ w, Calls Tryz.prog 7 #[.agg #[.string ⟨a.N.toArray⟩, .string ⟨a.S.toArray⟩, .int .i64 a.O, .int .i64 a.A, .int .i64 a.B.K, .int .i64 a.B.M, .int .i64 a.B.W, .int .i64 a.B.D, .int .i64 a.B.T, .int .i64 a.E.K, .int .i64 a.E.M, .int .i64 a.E.W, .int .i64 a.E.D, .int .i64 a.E.T]] w fun x w' => x = .returned (.agg #[.string ⟨a.N.toArray⟩, .string ⟨a.S.toArray⟩, .int .i64 a.O, .int .i64 a.A, .int .i64 a.B.K, .int .i64 a.B.M, .int .i64 a.B.W, .int .i64 a.B.D, .int .i64 a.B.T, .int .i64 a.E.K, .int .i64 a.E.M, .int .i64 a.E.W, .int .i64 a.E.D, .int .i64 a.E.T]) ∧ Below w.heap.size w w'))
    (HK : Hid (∀ w, Calls Tryz.prog 6 #[.agg #[.string ⟨a.N.toArray⟩, .string ⟨a.S.toArray⟩, .int .i64 a.O, .int .i64 a.A, .int .i64 a.B.K, .int .i64 a.B.M, .int .i64 a.B.W, .int .i64 a.B.D, .int .i64 a.B.T, .int .i64 a.E.K, .int .i64 a.E.M, .int .i64 a.E.W, .int .i64 a.E.D, .int .i64 a.E.T]] w fun x w' => x = .returned (.int .i64 0) ∧ Below w.heap.size w w'))
    (HU : Hid (∀ w, Tab w → Calls Tryz.prog 8 #[.agg #[.string ⟨a.N.toArray⟩, .string ⟨a.S.toArray⟩, .int .i64 a.O, .int .i64 a.A, .int .i64 a.B.K, .int .i64 a.B.M, .int .i64 a.B.W, .int .i64 a.B.D, .int .i64 a.B.T, .int .i64 a.E.K, .int .i64 a.E.M, .int .i64 a.E.W, .int .i64 a.E.D, .int .i64 a.E.T]] w fun x w' => x = .returned (.tuple #[.string S, ev 0]) ∧ Below w.heap.size w w'))
    (HV : Hid (∀ w, Calls Tryz.prog 9 #[.agg #[.string ⟨a.N.toArray⟩, .string ⟨a.S.toArray⟩, .int .i64 a.O, .int .i64 a.A, .int .i64 a.B.K, .int .i64 a.B.M, .int .i64 a.B.W, .int .i64 a.B.D, .int .i64 a.B.T, .int .i64 a.E.K, .int .i64 a.E.M, .int .i64 a.E.W, .int .i64 a.E.D, .int .i64 a.E.T]] w fun x w' => x = .returned (.string S) ∧ Below w.heap.size w w'))
    (HN1 : Hid (∀ w, Calls Tryz.prog 10 #[ev 0] w fun x w' => x = .returned (.int .i64 0) ∧ w = w'))
    (HX : Hid (∀ w, Calls Tryz.prog 11 #[.agg #[.string ⟨a.N.toArray⟩, .string ⟨a.S.toArray⟩, .int .i64 a.O, .int .i64 a.A, .int .i64 a.B.K, .int .i64 a.B.M, .int .i64 a.B.W, .int .i64 a.B.D, .int .i64 a.B.T, .int .i64 a.E.K, .int .i64 a.E.M, .int .i64 a.E.W, .int .i64 a.E.D, .int .i64 a.E.T]] w fun x w' => x = .returned (ev 0) ∧ Below w.heap.size w w'))
    (HC : Hid (∀ w, Calls Tryz.prog 12 #[.agg #[.string ⟨a.N.toArray⟩, .string ⟨a.S.toArray⟩, .int .i64 a.O, .int .i64 a.A, .int .i64 a.B.K, .int .i64 a.B.M, .int .i64 a.B.W, .int .i64 a.B.D, .int .i64 a.B.T, .int .i64 a.E.K, .int .i64 a.E.M, .int .i64 a.E.W, .int .i64 a.E.D, .int .i64 a.E.T]] w fun x w' => x = .returned (.bool c17) ∧ Below w.heap.size w w'))
    (HM1 : Hid (∀ w, Calls Tryz.prog 13 #[.string nm] w fun x w' => x = .returned (.bool n17) ∧ w = w'))
    (HM2 : Hid (∀ w, Calls Tryz.prog 14 #[.string nm] w fun x w' => x = .returned (.bool n17) ∧ w = w'))
    (HF : Hid (∀ w, Calls Tryz.prog 15 #[.string nm, .int .i64 off] w fun x w' => x = .returned (.tuple #[.agg (#[.string ⟨#[]⟩, .string ⟨#[]⟩, .int .i64 0, .int .i64 0, .int .i64 0, .int .i64 0, .int .i64 0, .int .i64 0, .int .i64 0, .int .i64 0, .int .i64 0, .int .i64 0, .int .i64 0, .int .i64 0] : Array Value), ev G]) ∧ Below w.heap.size w w'))
    (HK2 : Hid (∀ w, Calls Tryz.prog 6 #[.agg (#[.string nm, .string ⟨#[]⟩, .int .i64 off, .int .i64 0, .int .i64 0, .int .i64 0, .int .i64 0, .int .i64 0, .int .i64 0, .int .i64 0, .int .i64 0, .int .i64 0, .int .i64 0, .int .i64 0] : Array Value)] w fun x w' => x = .returned (.int .i64 G) ∧ Below w.heap.size w w'))
    (HN2 : Hid (∀ w, Calls Tryz.prog 10 #[ev G] w fun x w' => x = .returned (.int .i64 G) ∧ w = w'))
    : Calls Tryz.prog 3 #[.agg a.cells, .string nm, .int .i64 off] w fun x w' => x = .returned (.bool true) ∧ Below w.heap.size w w' := by
  have q0 := fun op t W x k => guard_ev op t W x k
  have q1 := fun W k => eql_ev W k
  have q2 := fun W k => neq_ev W k
  have t1 : decide ((60 : Int) < (nm.size : Int)) = false := decide_eq_false (by omega)
  have e1 := eq_no e0
  have g1 := eq_no g0
  have e2 := ne_yes e0
  have g2 := ne_yes g0
  have e3 : (E != E) = false := by simp
  have g3 : (G == G) = true := by simp
  have n3 : (n17 != n17) = false := by simp
  have c3 : (c17 != c17) = false := by simp
  clear e0 g0
  have eqp := fun w => eq_plan ⟨#[]⟩ ⟨#[]⟩ 0 0 0 0 0 0 0 0 0 0 0 0 w
  obtain ⟨W0, hW0⟩ : ∃ W0, W0 = w.alloc (.cells a.cells 25) := ⟨_, rfl⟩
  have B : Hid (Below w.heap.size w W0) := Lib.hid (by rw [hW0]; exact bel16 w _)
  have L0 : Plk W0 w.heap.size a := by rw [hW0]; exact plk_new _ _
  obtain ⟨c0, c1, c2, c3, c4, c5, c6, c7, c8, c9, c10, c11, c12, c13⟩ := L0.all
  have R := Lib.hid L0
  have T := Lib.hid (hT.below B.out)
  clear L0 hT
  have HA := Lib.hid (fun w => alive17_any w)
  go_enter Tryz.func3, Tryz.ntmps3
  go_upto_region 1 with fail
  rw [← hW0]; clear hW0
  go_upto_region 10 with (first
    | (go_at_call 4; with_reducible refine (HA.out _).mono ?_; rintro x w1 ⟨rfl, hb⟩; have R := Lib.hid (R.out.keep hb); have T := Lib.hid (T.out.below hb); have B := Lib.hid (B.out.trans (hb.mono B.out.size)); clear hb; obtain ⟨c0, c1, c2, c3, c4, c5, c6, c7, c8, c9, c10, c11, c12, c13⟩ := R.out.all)
    | (go_at_call 5; with_reducible refine (HL.out _).mono ?_; rintro x w2 ⟨rfl, hb⟩; have R := Lib.hid (R.out.keep hb); have T := Lib.hid (T.out.below hb); have B := Lib.hid (B.out.trans (hb.mono B.out.size)); clear hb; obtain ⟨c0, c1, c2, c3, c4, c5, c6, c7, c8, c9, c10, c11, c12, c13⟩ := R.out.all)
    | (go_at_call 7; with_reducible refine (HD.out _).mono ?_; rintro x w3 ⟨rfl, hb⟩; have R := Lib.hid (R.out.keep hb); have T := Lib.hid (T.out.below hb); have B := Lib.hid (B.out.trans (hb.mono B.out.size)); clear hb; obtain ⟨c0, c1, c2, c3, c4, c5, c6, c7, c8, c9, c10, c11, c12, c13⟩ := R.out.all)
    | (go_at_call 6; with_reducible refine (HK.out _).mono ?_; rintro x w4 ⟨rfl, hb⟩; have R := Lib.hid (R.out.keep hb); have T := Lib.hid (T.out.below hb); have B := Lib.hid (B.out.trans (hb.mono B.out.size)); clear hb; obtain ⟨c0, c1, c2, c3, c4, c5, c6, c7, c8, c9, c10, c11, c12, c13⟩ := R.out.all)
    | (go_at_call 8; with_reducible refine (HU.out _ T.out).mono ?_; rintro x w5 ⟨rfl, hb⟩; have R := Lib.hid (R.out.keep hb); have T := Lib.hid (T.out.below hb); have B := Lib.hid (B.out.trans (hb.mono B.out.size)); clear hb; obtain ⟨c0, c1, c2, c3, c4, c5, c6, c7, c8, c9, c10, c11, c12, c13⟩ := R.out.all)
    | (go_at_call 9; with_reducible refine (HV.out _).mono ?_; rintro x w6 ⟨rfl, hb⟩; have R := Lib.hid (R.out.keep hb); have T := Lib.hid (T.out.below hb); have B := Lib.hid (B.out.trans (hb.mono B.out.size)); clear hb; obtain ⟨c0, c1, c2, c3, c4, c5, c6, c7, c8, c9, c10, c11, c12, c13⟩ := R.out.all))
  have HH : Hid (∀ W, Kq16 w6 W → (W.cell? ⟨w.heap.size, 0, none⟩ = some (.string ⟨a.N.toArray⟩) ∧ W.cell? ⟨w.heap.size, 1, none⟩ = some (.string ⟨a.S.toArray⟩) ∧ W.cell? ⟨w.heap.size, 2, none⟩ = some (.int .i64 a.O) ∧ W.cell? ⟨w.heap.size, 3, none⟩ = some (.int .i64 a.A) ∧ W.cell? ⟨w.heap.size, 4, none⟩ = some (.int .i64 a.B.K) ∧ W.cell? ⟨w.heap.size, 5, none⟩ = some (.int .i64 a.B.M) ∧ W.cell? ⟨w.heap.size, 6, none⟩ = some (.int .i64 a.B.W) ∧ W.cell? ⟨w.heap.size, 7, none⟩ = some (.int .i64 a.B.D) ∧ W.cell? ⟨w.heap.size, 8, none⟩ = some (.int .i64 a.B.T) ∧ W.cell? ⟨w.heap.size, 9, none⟩ = some (.int .i64 a.E.K) ∧ W.cell? ⟨w.heap.size, 10, none⟩ = some (.int .i64 a.E.M) ∧ W.cell? ⟨w.heap.size, 11, none⟩ = some (.int .i64 a.E.W) ∧ W.cell? ⟨w.heap.size, 12, none⟩ = some (.int .i64 a.E.D) ∧ W.cell? ⟨w.heap.size, 13, none⟩ = some (.int .i64 a.E.T)) ∧ Kq16 w6 W) := Lib.hid (fun W k => ⟨(R.out.keep k.bel).all, k⟩)
  have hKD : Kq16 w6 w6.drew := ⟨(Below.refl _ w6).drew⟩
  go_region_held3 (fun W => (W.cell? ⟨w.heap.size, 0, none⟩ = some (.string ⟨a.N.toArray⟩) ∧ W.cell? ⟨w.heap.size, 1, none⟩ = some (.string ⟨a.S.toArray⟩) ∧ W.cell? ⟨w.heap.size, 2, none⟩ = some (.int .i64 a.O) ∧ W.cell? ⟨w.heap.size, 3, none⟩ = some (.int .i64 a.A) ∧ W.cell? ⟨w.heap.size, 4, none⟩ = some (.int .i64 a.B.K) ∧ W.cell? ⟨w.heap.size, 5, none⟩ = some (.int .i64 a.B.M) ∧ W.cell? ⟨w.heap.size, 6, none⟩ = some (.int .i64 a.B.W) ∧ W.cell? ⟨w.heap.size, 7, none⟩ = some (.int .i64 a.B.D) ∧ W.cell? ⟨w.heap.size, 8, none⟩ = some (.int .i64 a.B.T) ∧ W.cell? ⟨w.heap.size, 9, none⟩ = some (.int .i64 a.E.K) ∧ W.cell? ⟨w.heap.size, 10, none⟩ = some (.int .i64 a.E.M) ∧ W.cell? ⟨w.heap.size, 11, none⟩ = some (.int .i64 a.E.W) ∧ W.cell? ⟨w.heap.size, 12, none⟩ = some (.int .i64 a.E.D) ∧ W.cell? ⟨w.heap.size, 13, none⟩ = some (.int .i64 a.E.T)) ∧ Kq16 w6 W)
    (exact HH.out _ (by assumption))
    (first
      | (go_at_call 10; go_split_ands; (with_reducible refine (HN1.out _).mono ?_); rintro er wra ⟨rfl, rfl⟩)
      | (go_at_call 11; go_split_ands; (with_reducible refine (HX.out _).mono ?_); rintro er wra ⟨rfl, hq⟩; have hkr : Kq16 w6 wra := Kq16.step (by assumption) hq; clear hq)
      | (go_at_call 12; go_split_ands; (with_reducible refine (HC.out _).mono ?_); rintro er wra ⟨rfl, hq⟩; have hkr : Kq16 w6 wra := Kq16.step (by assumption) hq; clear hq)
      | (go_at_call 13; go_split_ands; (with_reducible refine (HM1.out _).mono ?_); rintro er wra ⟨rfl, rfl⟩)
      | (go_at_call 14; go_split_ands; (with_reducible refine (HM2.out _).mono ?_); rintro er wra ⟨rfl, rfl⟩))
  have Q1 : Hid (Below w6.heap.size w6 _) := Lib.hid (Kq16.bel (W0 := w6) (by assumption))
  replace B := Lib.hid (B.out.trans (Q1.out.mono B.out.size))
  clear R T HH hKD
  go_upto_region 13 with (go_at_call 15; with_reducible refine (HF.out _).mono ?_; rintro x w7 ⟨rfl, hb⟩; have B := Lib.hid (B.out.trans (hb.mono B.out.size)); clear hb)
  have n8 : (w7.alloc (.cells (#[.string ⟨#[]⟩, .string ⟨#[]⟩, .int .i64 0, .int .i64 0, .int .i64 0, .int .i64 0, .int .i64 0, .int .i64 0, .int .i64 0, .int .i64 0, .int .i64 0, .int .i64 0, .int .i64 0, .int .i64 0] : Array Value) 25)).heap[w7.heap.size]? = some (.cells (#[.string ⟨#[]⟩, .string ⟨#[]⟩, .int .i64 0, .int .i64 0, .int .i64 0, .int .i64 0, .int .i64 0, .int .i64 0, .int .i64 0, .int .i64 0, .int .i64 0, .int .i64 0, .int .i64 0, .int .i64 0] : Array Value) 25 (0, 0)) := heap_alloc_new w7 _
  have b8 := B.out.alloc B.out.size (.cells (#[.string ⟨#[]⟩, .string ⟨#[]⟩, .int .i64 0, .int .i64 0, .int .i64 0, .int .i64 0, .int .i64 0, .int .i64 0, .int .i64 0, .int .i64 0, .int .i64 0, .int .i64 0, .int .i64 0, .int .i64 0] : Array Value) 25)
  obtain ⟨f, hf⟩ : ∃ f, f = w7.heap.size := ⟨_, rfl⟩
  obtain ⟨W8, hW8⟩ : ∃ W8, W8 = w7.alloc (.cells (#[.string ⟨#[]⟩, .string ⟨#[]⟩, .int .i64 0, .int .i64 0, .int .i64 0, .int .i64 0, .int .i64 0, .int .i64 0, .int .i64 0, .int .i64 0, .int .i64 0, .int .i64 0, .int .i64 0, .int .i64 0] : Array Value) 25) := ⟨_, rfl⟩
  rw [← hW8] at n8 b8
  rw [← hf] at n8
  rw [← hW8, ← hf]
  clear hW8 hf
  have m9 := bel_keep (bel16 W8 (.cells (#[.string nm, .string ⟨#[]⟩, .int .i64 off, .int .i64 0, .int .i64 0, .int .i64 0, .int .i64 0, .int .i64 0, .int .i64 0, .int .i64 0, .int .i64 0, .int .i64 0, .int .i64 0, .int .i64 0] : Array Value) 31)) n8
  have n9 : (W8.alloc (.cells (#[.string nm, .string ⟨#[]⟩, .int .i64 off, .int .i64 0, .int .i64 0, .int .i64 0, .int .i64 0, .int .i64 0, .int .i64 0, .int .i64 0, .int .i64 0, .int .i64 0, .int .i64 0, .int .i64 0] : Array Value) 31)).heap[W8.heap.size]? = some (.cells (#[.string nm, .string ⟨#[]⟩, .int .i64 off, .int .i64 0, .int .i64 0, .int .i64 0, .int .i64 0, .int .i64 0, .int .i64 0, .int .i64 0, .int .i64 0, .int .i64 0, .int .i64 0, .int .i64 0] : Array Value) 31 (0, 0)) := heap_alloc_new W8 _
  have b9 := b8.alloc b8.size (.cells (#[.string nm, .string ⟨#[]⟩, .int .i64 off, .int .i64 0, .int .i64 0, .int .i64 0, .int .i64 0, .int .i64 0, .int .i64 0, .int .i64 0, .int .i64 0, .int .i64 0, .int .i64 0, .int .i64 0] : Array Value) 31)
  go_upto_region 14 with fail
  obtain ⟨m, hm⟩ : ∃ m, m = W8.heap.size := ⟨_, rfl⟩
  obtain ⟨W9, hW9⟩ : ∃ W9, W9 = W8.alloc (.cells (#[.string nm, .string ⟨#[]⟩, .int .i64 off, .int .i64 0, .int .i64 0, .int .i64 0, .int .i64 0, .int .i64 0, .int .i64 0, .int .i64 0, .int .i64 0, .int .i64 0, .int .i64 0, .int .i64 0] : Array Value) 31) := ⟨_, rfl⟩
  rw [← hW9] at m9 n9 b9
  rw [← hm] at n9
  rw [← hW9, ← hm]
  clear hW9 hm n8 b8
  have R := Lib.hid m9
  have M := Lib.hid n9
  replace B := Lib.hid b9
  clear m9 n9 b9
  obtain ⟨f0, f1, f2, f3, f4, f5, f6, f7, f8, f9, f10, f11, f12, f13⟩ := see_block14 R.out
  obtain ⟨m0, m1, m2, m3, m4, m5, m6, m7, m8, m9, m10, m11, m12, m13⟩ := see_block14 M.out
  go_wp2_with (first
    | (go_at_call 6; with_reducible refine (HK2.out _).mono ?_; rintro x w10 ⟨rfl, hb⟩; have R := Lib.hid (bel_keep hb R.out); have M := Lib.hid (bel_keep hb M.out); have B := Lib.hid (B.out.trans (hb.mono B.out.size)); clear hb; obtain ⟨f0, f1, f2, f3, f4, f5, f6, f7, f8, f9, f10, f11, f12, f13⟩ := see_block14 R.out; obtain ⟨m0, m1, m2, m3, m4, m5, m6, m7, m8, m9, m10, m11, m12, m13⟩ := see_block14 M.out)
    | (go_at_call 10; with_reducible refine (HN2.out _).mono ?_; rintro x w11 ⟨rfl, rfl⟩))
  go_ret
  exact ⟨rfl, B.out⟩
set_option maxRecDepth 100000 in
set_option maxHeartbeats 16000000 in
theorem chk17_ny (a : Pl) (nm S : ByteArray) (off E G : Int) (n17 c17 : Bool) (e0 : E ≠ 0) (g0 : G ≠ 0) (w : World) (hT : Tab w) (hs : nm.size ≤ 60) (hc1 : decide ((0 : Int) < (a.S.length : Int)) = c17) (hc2 : decide (0 < a.S.length) = c17)
    (HL : Hid (∀ w, Calls Tryz.prog 5 #[.agg #[.string ⟨a.N.toArray⟩, .string ⟨a.S.toArray⟩, .int .i64 a.O, .int .i64 a.A, .int .i64 a.B.K, .int .i64 a.B.M, .int .i64 a.B.W, .int .i64 a.B.D, .int .i64 a.B.T, .int .i64 a.E.K, .int .i64 a.E.M, .int .i64 a.E.W, .int .i64 a.E.D, .int .i64 a.E.T]] w fun x w' => x = .returned (.bool false) ∧ Below w.heap.size w w'))
    (HD : Hid (∀ w, Calls Tryz.prog 7 #[.agg #[.string ⟨a.N.toArray⟩, .string ⟨a.S.toArray⟩, .int .i64 a.O, .int .i64 a.A, .int .i64 a.B.K, .int .i64 a.B.M, .int .i64 a.B.W, .int .i64 a.B.D, .int .i64 a.B.T, .int .i64 a.E.K, .int .i64 a.E.M, .int .i64 a.E.W, .int .i64 a.E.D, .int .i64 a.E.T]] w fun x w' => x = .returned (.agg #[.string ⟨a.N.toArray⟩, .string ⟨a.S.toArray⟩, .int .i64 a.O, .int .i64 a.A, .int .i64 a.B.K, .int .i64 a.B.M, .int .i64 a.B.W, .int .i64 a.B.D, .int .i64 a.B.T, .int .i64 a.E.K, .int .i64 a.E.M, .int .i64 a.E.W, .int .i64 a.E.D, .int .i64 a.E.T]) ∧ Below w.heap.size w w'))
    (HK : Hid (∀ w, Calls Tryz.prog 6 #[.agg #[.string ⟨a.N.toArray⟩, .string ⟨a.S.toArray⟩, .int .i64 a.O, .int .i64 a.A, .int .i64 a.B.K, .int .i64 a.B.M, .int .i64 a.B.W, .int .i64 a.B.D, .int .i64 a.B.T, .int .i64 a.E.K, .int .i64 a.E.M, .int .i64 a.E.W, .int .i64 a.E.D, .int .i64 a.E.T]] w fun x w' => x = .returned (.int .i64 E) ∧ Below w.heap.size w w'))
    (HU : Hid (∀ w, Tab w → Calls Tryz.prog 8 #[.agg #[.string ⟨a.N.toArray⟩, .string ⟨a.S.toArray⟩, .int .i64 a.O, .int .i64 a.A, .int .i64 a.B.K, .int .i64 a.B.M, .int .i64 a.B.W, .int .i64 a.B.D, .int .i64 a.B.T, .int .i64 a.E.K, .int .i64 a.E.M, .int .i64 a.E.W, .int .i64 a.E.D, .int .i64 a.E.T]] w fun x w' => x = .returned (.tuple #[.string ⟨#[]⟩, ev E]) ∧ Below w.heap.size w w'))
    (HN1 : Hid (∀ w, Calls Tryz.prog 10 #[ev E] w fun x w' => x = .returned (.int .i64 E) ∧ w = w'))
    (HX : Hid (∀ w, Calls Tryz.prog 11 #[.agg #[.string ⟨a.N.toArray⟩, .string ⟨a.S.toArray⟩, .int .i64 a.O, .int .i64 a.A, .int .i64 a.B.K, .int .i64 a.B.M, .int .i64 a.B.W, .int .i64 a.B.D, .int .i64 a.B.T, .int .i64 a.E.K, .int .i64 a.E.M, .int .i64 a.E.W, .int .i64 a.E.D, .int .i64 a.E.T]] w fun x w' => x = .returned (ev E) ∧ Below w.heap.size w w'))
    (HC : Hid (∀ w, Calls Tryz.prog 12 #[.agg #[.string ⟨a.N.toArray⟩, .string ⟨a.S.toArray⟩, .int .i64 a.O, .int .i64 a.A, .int .i64 a.B.K, .int .i64 a.B.M, .int .i64 a.B.W, .int .i64 a.B.D, .int .i64 a.B.T, .int .i64 a.E.K, .int .i64 a.E.M, .int .i64 a.E.W, .int .i64 a.E.D, .int .i64 a.E.T]] w fun x w' => x = .returned (.bool c17) ∧ Below w.heap.size w w'))
    (HM1 : Hid (∀ w, Calls Tryz.prog 13 #[.string nm] w fun x w' => x = .returned (.bool n17) ∧ w = w'))
    (HM2 : Hid (∀ w, Calls Tryz.prog 14 #[.string nm] w fun x w' => x = .returned (.bool n17) ∧ w = w'))
    (HF : Hid (∀ w, Calls Tryz.prog 15 #[.string nm, .int .i64 off] w fun x w' => x = .returned (.tuple #[.agg (#[.string nm, .string ⟨#[]⟩, .int .i64 off, .int .i64 0, .int .i64 0, .int .i64 0, .int .i64 0, .int .i64 0, .int .i64 0, .int .i64 0, .int .i64 0, .int .i64 0, .int .i64 0, .int .i64 0] : Array Value), ev 0]) ∧ Below w.heap.size w w'))
    (HK2 : Hid (∀ w, Calls Tryz.prog 6 #[.agg (#[.string nm, .string ⟨#[]⟩, .int .i64 off, .int .i64 0, .int .i64 0, .int .i64 0, .int .i64 0, .int .i64 0, .int .i64 0, .int .i64 0, .int .i64 0, .int .i64 0, .int .i64 0, .int .i64 0] : Array Value)] w fun x w' => x = .returned (.int .i64 0) ∧ Below w.heap.size w w'))
    (HD2 : Hid (∀ w, Calls Tryz.prog 7 #[.agg (#[.string nm, .string ⟨#[]⟩, .int .i64 off, .int .i64 0, .int .i64 0, .int .i64 0, .int .i64 0, .int .i64 0, .int .i64 0, .int .i64 0, .int .i64 0, .int .i64 0, .int .i64 0, .int .i64 0] : Array Value)] w fun x w' => x = .returned (.agg (#[.string nm, .string ⟨#[]⟩, .int .i64 off, .int .i64 0, .int .i64 0, .int .i64 0, .int .i64 0, .int .i64 0, .int .i64 0, .int .i64 0, .int .i64 0, .int .i64 0, .int .i64 0, .int .i64 0] : Array Value)) ∧ Below w.heap.size w w'))
    : Calls Tryz.prog 3 #[.agg a.cells, .string nm, .int .i64 off] w fun x w' => x = .returned (.bool true) ∧ Below w.heap.size w w' := by
  have q0 := fun op t W x k => guard_ev op t W x k
  have q1 := fun W k => eql_ev W k
  have q2 := fun W k => neq_ev W k
  have t1 : decide ((60 : Int) < (nm.size : Int)) = false := decide_eq_false (by omega)
  have e1 := eq_no e0
  have g1 := eq_no g0
  have e2 := ne_yes e0
  have g2 := ne_yes g0
  have e3 : (E != E) = false := by simp
  have g3 : (G == G) = true := by simp
  have n3 : (n17 != n17) = false := by simp
  have c3 : (c17 != c17) = false := by simp
  clear e0 g0
  have eqd := fun w => eq_dplan nm ⟨#[]⟩ off 0 0 0 0 0 0 0 0 0 0 0 w
  obtain ⟨W0, hW0⟩ : ∃ W0, W0 = w.alloc (.cells a.cells 25) := ⟨_, rfl⟩
  have B : Hid (Below w.heap.size w W0) := Lib.hid (by rw [hW0]; exact bel16 w _)
  have L0 : Plk W0 w.heap.size a := by rw [hW0]; exact plk_new _ _
  obtain ⟨c0, c1, c2, c3, c4, c5, c6, c7, c8, c9, c10, c11, c12, c13⟩ := L0.all
  have R := Lib.hid L0
  have T := Lib.hid (hT.below B.out)
  clear L0 hT
  have HA := Lib.hid (fun w => alive17_any w)
  go_enter Tryz.func3, Tryz.ntmps3
  go_upto_region 1 with fail
  rw [← hW0]; clear hW0
  go_upto_region 10 with (first
    | (go_at_call 4; with_reducible refine (HA.out _).mono ?_; rintro x w1 ⟨rfl, hb⟩; have R := Lib.hid (R.out.keep hb); have T := Lib.hid (T.out.below hb); have B := Lib.hid (B.out.trans (hb.mono B.out.size)); clear hb; obtain ⟨c0, c1, c2, c3, c4, c5, c6, c7, c8, c9, c10, c11, c12, c13⟩ := R.out.all)
    | (go_at_call 5; with_reducible refine (HL.out _).mono ?_; rintro x w2 ⟨rfl, hb⟩; have R := Lib.hid (R.out.keep hb); have T := Lib.hid (T.out.below hb); have B := Lib.hid (B.out.trans (hb.mono B.out.size)); clear hb; obtain ⟨c0, c1, c2, c3, c4, c5, c6, c7, c8, c9, c10, c11, c12, c13⟩ := R.out.all)
    | (go_at_call 7; with_reducible refine (HD.out _).mono ?_; rintro x w3 ⟨rfl, hb⟩; have R := Lib.hid (R.out.keep hb); have T := Lib.hid (T.out.below hb); have B := Lib.hid (B.out.trans (hb.mono B.out.size)); clear hb; obtain ⟨c0, c1, c2, c3, c4, c5, c6, c7, c8, c9, c10, c11, c12, c13⟩ := R.out.all)
    | (go_at_call 6; with_reducible refine (HK.out _).mono ?_; rintro x w4 ⟨rfl, hb⟩; have R := Lib.hid (R.out.keep hb); have T := Lib.hid (T.out.below hb); have B := Lib.hid (B.out.trans (hb.mono B.out.size)); clear hb; obtain ⟨c0, c1, c2, c3, c4, c5, c6, c7, c8, c9, c10, c11, c12, c13⟩ := R.out.all)
    | (go_at_call 8; with_reducible refine (HU.out _ T.out).mono ?_; rintro x w5 ⟨rfl, hb⟩; have R := Lib.hid (R.out.keep hb); have T := Lib.hid (T.out.below hb); have B := Lib.hid (B.out.trans (hb.mono B.out.size)); clear hb; obtain ⟨c0, c1, c2, c3, c4, c5, c6, c7, c8, c9, c10, c11, c12, c13⟩ := R.out.all))
  have HH : Hid (∀ W, Kq16 w5 W → (W.cell? ⟨w.heap.size, 0, none⟩ = some (.string ⟨a.N.toArray⟩) ∧ W.cell? ⟨w.heap.size, 1, none⟩ = some (.string ⟨a.S.toArray⟩) ∧ W.cell? ⟨w.heap.size, 2, none⟩ = some (.int .i64 a.O) ∧ W.cell? ⟨w.heap.size, 3, none⟩ = some (.int .i64 a.A) ∧ W.cell? ⟨w.heap.size, 4, none⟩ = some (.int .i64 a.B.K) ∧ W.cell? ⟨w.heap.size, 5, none⟩ = some (.int .i64 a.B.M) ∧ W.cell? ⟨w.heap.size, 6, none⟩ = some (.int .i64 a.B.W) ∧ W.cell? ⟨w.heap.size, 7, none⟩ = some (.int .i64 a.B.D) ∧ W.cell? ⟨w.heap.size, 8, none⟩ = some (.int .i64 a.B.T) ∧ W.cell? ⟨w.heap.size, 9, none⟩ = some (.int .i64 a.E.K) ∧ W.cell? ⟨w.heap.size, 10, none⟩ = some (.int .i64 a.E.M) ∧ W.cell? ⟨w.heap.size, 11, none⟩ = some (.int .i64 a.E.W) ∧ W.cell? ⟨w.heap.size, 12, none⟩ = some (.int .i64 a.E.D) ∧ W.cell? ⟨w.heap.size, 13, none⟩ = some (.int .i64 a.E.T)) ∧ Kq16 w5 W) := Lib.hid (fun W k => ⟨(R.out.keep k.bel).all, k⟩)
  have hKD : Kq16 w5 w5.drew := ⟨(Below.refl _ w5).drew⟩
  go_region_held3 (fun W => (W.cell? ⟨w.heap.size, 0, none⟩ = some (.string ⟨a.N.toArray⟩) ∧ W.cell? ⟨w.heap.size, 1, none⟩ = some (.string ⟨a.S.toArray⟩) ∧ W.cell? ⟨w.heap.size, 2, none⟩ = some (.int .i64 a.O) ∧ W.cell? ⟨w.heap.size, 3, none⟩ = some (.int .i64 a.A) ∧ W.cell? ⟨w.heap.size, 4, none⟩ = some (.int .i64 a.B.K) ∧ W.cell? ⟨w.heap.size, 5, none⟩ = some (.int .i64 a.B.M) ∧ W.cell? ⟨w.heap.size, 6, none⟩ = some (.int .i64 a.B.W) ∧ W.cell? ⟨w.heap.size, 7, none⟩ = some (.int .i64 a.B.D) ∧ W.cell? ⟨w.heap.size, 8, none⟩ = some (.int .i64 a.B.T) ∧ W.cell? ⟨w.heap.size, 9, none⟩ = some (.int .i64 a.E.K) ∧ W.cell? ⟨w.heap.size, 10, none⟩ = some (.int .i64 a.E.M) ∧ W.cell? ⟨w.heap.size, 11, none⟩ = some (.int .i64 a.E.W) ∧ W.cell? ⟨w.heap.size, 12, none⟩ = some (.int .i64 a.E.D) ∧ W.cell? ⟨w.heap.size, 13, none⟩ = some (.int .i64 a.E.T)) ∧ Kq16 w5 W)
    (exact HH.out _ (by assumption))
    (first
      | (go_at_call 10; go_split_ands; (with_reducible refine (HN1.out _).mono ?_); rintro er wra ⟨rfl, rfl⟩)
      | (go_at_call 11; go_split_ands; (with_reducible refine (HX.out _).mono ?_); rintro er wra ⟨rfl, hq⟩; have hkr : Kq16 w5 wra := Kq16.step (by assumption) hq; clear hq)
      | (go_at_call 12; go_split_ands; (with_reducible refine (HC.out _).mono ?_); rintro er wra ⟨rfl, hq⟩; have hkr : Kq16 w5 wra := Kq16.step (by assumption) hq; clear hq)
      | (go_at_call 13; go_split_ands; (with_reducible refine (HM1.out _).mono ?_); rintro er wra ⟨rfl, rfl⟩)
      | (go_at_call 14; go_split_ands; (with_reducible refine (HM2.out _).mono ?_); rintro er wra ⟨rfl, rfl⟩))
  have Q1 : Hid (Below w5.heap.size w5 _) := Lib.hid (Kq16.bel (W0 := w5) (by assumption))
  replace B := Lib.hid (B.out.trans (Q1.out.mono B.out.size))
  clear R T HH hKD
  go_upto_region 13 with (go_at_call 15; with_reducible refine (HF.out _).mono ?_; rintro x w7 ⟨rfl, hb⟩; have B := Lib.hid (B.out.trans (hb.mono B.out.size)); clear hb)
  have n8 : (w7.alloc (.cells (#[.string nm, .string ⟨#[]⟩, .int .i64 off, .int .i64 0, .int .i64 0, .int .i64 0, .int .i64 0, .int .i64 0, .int .i64 0, .int .i64 0, .int .i64 0, .int .i64 0, .int .i64 0, .int .i64 0] : Array Value) 25)).heap[w7.heap.size]? = some (.cells (#[.string nm, .string ⟨#[]⟩, .int .i64 off, .int .i64 0, .int .i64 0, .int .i64 0, .int .i64 0, .int .i64 0, .int .i64 0, .int .i64 0, .int .i64 0, .int .i64 0, .int .i64 0, .int .i64 0] : Array Value) 25 (0, 0)) := heap_alloc_new w7 _
  have b8 := B.out.alloc B.out.size (.cells (#[.string nm, .string ⟨#[]⟩, .int .i64 off, .int .i64 0, .int .i64 0, .int .i64 0, .int .i64 0, .int .i64 0, .int .i64 0, .int .i64 0, .int .i64 0, .int .i64 0, .int .i64 0, .int .i64 0] : Array Value) 25)
  obtain ⟨f, hf⟩ : ∃ f, f = w7.heap.size := ⟨_, rfl⟩
  obtain ⟨W8, hW8⟩ : ∃ W8, W8 = w7.alloc (.cells (#[.string nm, .string ⟨#[]⟩, .int .i64 off, .int .i64 0, .int .i64 0, .int .i64 0, .int .i64 0, .int .i64 0, .int .i64 0, .int .i64 0, .int .i64 0, .int .i64 0, .int .i64 0, .int .i64 0] : Array Value) 25) := ⟨_, rfl⟩
  rw [← hW8] at n8 b8
  rw [← hf] at n8
  rw [← hW8, ← hf]
  clear hW8 hf
  have m9 := bel_keep (bel16 W8 (.cells (#[.string nm, .string ⟨#[]⟩, .int .i64 off, .int .i64 0, .int .i64 0, .int .i64 0, .int .i64 0, .int .i64 0, .int .i64 0, .int .i64 0, .int .i64 0, .int .i64 0, .int .i64 0, .int .i64 0] : Array Value) 31)) n8
  have n9 : (W8.alloc (.cells (#[.string nm, .string ⟨#[]⟩, .int .i64 off, .int .i64 0, .int .i64 0, .int .i64 0, .int .i64 0, .int .i64 0, .int .i64 0, .int .i64 0, .int .i64 0, .int .i64 0, .int .i64 0, .int .i64 0] : Array Value) 31)).heap[W8.heap.size]? = some (.cells (#[.string nm, .string ⟨#[]⟩, .int .i64 off, .int .i64 0, .int .i64 0, .int .i64 0, .int .i64 0, .int .i64 0, .int .i64 0, .int .i64 0, .int .i64 0, .int .i64 0, .int .i64 0, .int .i64 0] : Array Value) 31 (0, 0)) := heap_alloc_new W8 _
  have b9 := b8.alloc b8.size (.cells (#[.string nm, .string ⟨#[]⟩, .int .i64 off, .int .i64 0, .int .i64 0, .int .i64 0, .int .i64 0, .int .i64 0, .int .i64 0, .int .i64 0, .int .i64 0, .int .i64 0, .int .i64 0, .int .i64 0] : Array Value) 31)
  go_upto_region 14 with fail
  obtain ⟨m, hm⟩ : ∃ m, m = W8.heap.size := ⟨_, rfl⟩
  obtain ⟨W9, hW9⟩ : ∃ W9, W9 = W8.alloc (.cells (#[.string nm, .string ⟨#[]⟩, .int .i64 off, .int .i64 0, .int .i64 0, .int .i64 0, .int .i64 0, .int .i64 0, .int .i64 0, .int .i64 0, .int .i64 0, .int .i64 0, .int .i64 0, .int .i64 0] : Array Value) 31) := ⟨_, rfl⟩
  rw [← hW9] at m9 n9 b9
  rw [← hm] at n9
  rw [← hW9, ← hm]
  clear hW9 hm n8 b8
  have R := Lib.hid m9
  have M := Lib.hid n9
  replace B := Lib.hid b9
  clear m9 n9 b9
  obtain ⟨f0, f1, f2, f3, f4, f5, f6, f7, f8, f9, f10, f11, f12, f13⟩ := see_block14 R.out
  obtain ⟨m0, m1, m2, m3, m4, m5, m6, m7, m8, m9, m10, m11, m12, m13⟩ := see_block14 M.out
  go_upto_region 17 with (go_at_call 6; with_reducible refine (HK2.out _).mono ?_; rintro x w10 ⟨rfl, hb⟩; have R := Lib.hid (bel_keep hb R.out); have M := Lib.hid (bel_keep hb M.out); have B := Lib.hid (B.out.trans (hb.mono B.out.size)); clear hb; obtain ⟨f0, f1, f2, f3, f4, f5, f6, f7, f8, f9, f10, f11, f12, f13⟩ := see_block14 R.out; obtain ⟨m0, m1, m2, m3, m4, m5, m6, m7, m8, m9, m10, m11, m12, m13⟩ := see_block14 M.out)
  have HH : Hid (∀ W, Kq16 w10 W → ((W.cell? ⟨f, 0, none⟩ = some (.string nm) ∧ W.cell? ⟨f, 1, none⟩ = some (.string ⟨#[]⟩) ∧ W.cell? ⟨f, 2, none⟩ = some (.int .i64 off) ∧ W.cell? ⟨f, 3, none⟩ = some (.int .i64 0) ∧ W.cell? ⟨f, 4, none⟩ = some (.int .i64 0) ∧ W.cell? ⟨f, 5, none⟩ = some (.int .i64 0) ∧ W.cell? ⟨f, 6, none⟩ = some (.int .i64 0) ∧ W.cell? ⟨f, 7, none⟩ = some (.int .i64 0) ∧ W.cell? ⟨f, 8, none⟩ = some (.int .i64 0) ∧ W.cell? ⟨f, 9, none⟩ = some (.int .i64 0) ∧ W.cell? ⟨f, 10, none⟩ = some (.int .i64 0) ∧ W.cell? ⟨f, 11, none⟩ = some (.int .i64 0) ∧ W.cell? ⟨f, 12, none⟩ = some (.int .i64 0) ∧ W.cell? ⟨f, 13, none⟩ = some (.int .i64 0)) ∧ (W.cell? ⟨m, 0, none⟩ = some (.string nm) ∧ W.cell? ⟨m, 1, none⟩ = some (.string ⟨#[]⟩) ∧ W.cell? ⟨m, 2, none⟩ = some (.int .i64 off) ∧ W.cell? ⟨m, 3, none⟩ = some (.int .i64 0) ∧ W.cell? ⟨m, 4, none⟩ = some (.int .i64 0) ∧ W.cell? ⟨m, 5, none⟩ = some (.int .i64 0) ∧ W.cell? ⟨m, 6, none⟩ = some (.int .i64 0) ∧ W.cell? ⟨m, 7, none⟩ = some (.int .i64 0) ∧ W.cell? ⟨m, 8, none⟩ = some (.int .i64 0) ∧ W.cell? ⟨m, 9, none⟩ = some (.int .i64 0) ∧ W.cell? ⟨m, 10, none⟩ = some (.int .i64 0) ∧ W.cell? ⟨m, 11, none⟩ = some (.int .i64 0) ∧ W.cell? ⟨m, 12, none⟩ = some (.int .i64 0) ∧ W.cell? ⟨m, 13, none⟩ = some (.int .i64 0))) ∧ Kq16 w10 W) := Lib.hid (fun W k => ⟨⟨see_block14 (bel_keep k.bel R.out), see_block14 (bel_keep k.bel M.out)⟩, k⟩)
  have hKD : Kq16 w10 w10.drew := ⟨(Below.refl _ w10).drew⟩
  go_region_held3 (fun W => ((W.cell? ⟨f, 0, none⟩ = some (.string nm) ∧ W.cell? ⟨f, 1, none⟩ = some (.string ⟨#[]⟩) ∧ W.cell? ⟨f, 2, none⟩ = some (.int .i64 off) ∧ W.cell? ⟨f, 3, none⟩ = some (.int .i64 0) ∧ W.cell? ⟨f, 4, none⟩ = some (.int .i64 0) ∧ W.cell? ⟨f, 5, none⟩ = some (.int .i64 0) ∧ W.cell? ⟨f, 6, none⟩ = some (.int .i64 0) ∧ W.cell? ⟨f, 7, none⟩ = some (.int .i64 0) ∧ W.cell? ⟨f, 8, none⟩ = some (.int .i64 0) ∧ W.cell? ⟨f, 9, none⟩ = some (.int .i64 0) ∧ W.cell? ⟨f, 10, none⟩ = some (.int .i64 0) ∧ W.cell? ⟨f, 11, none⟩ = some (.int .i64 0) ∧ W.cell? ⟨f, 12, none⟩ = some (.int .i64 0) ∧ W.cell? ⟨f, 13, none⟩ = some (.int .i64 0)) ∧ (W.cell? ⟨m, 0, none⟩ = some (.string nm) ∧ W.cell? ⟨m, 1, none⟩ = some (.string ⟨#[]⟩) ∧ W.cell? ⟨m, 2, none⟩ = some (.int .i64 off) ∧ W.cell? ⟨m, 3, none⟩ = some (.int .i64 0) ∧ W.cell? ⟨m, 4, none⟩ = some (.int .i64 0) ∧ W.cell? ⟨m, 5, none⟩ = some (.int .i64 0) ∧ W.cell? ⟨m, 6, none⟩ = some (.int .i64 0) ∧ W.cell? ⟨m, 7, none⟩ = some (.int .i64 0) ∧ W.cell? ⟨m, 8, none⟩ = some (.int .i64 0) ∧ W.cell? ⟨m, 9, none⟩ = some (.int .i64 0) ∧ W.cell? ⟨m, 10, none⟩ = some (.int .i64 0) ∧ W.cell? ⟨m, 11, none⟩ = some (.int .i64 0) ∧ W.cell? ⟨m, 12, none⟩ = some (.int .i64 0) ∧ W.cell? ⟨m, 13, none⟩ = some (.int .i64 0))) ∧ Kq16 w10 W)
    (exact HH.out _ (by assumption))
    ((go_at_call 7; go_split_ands; (with_reducible refine (HD2.out _).mono ?_); rintro er wrb ⟨rfl, hq⟩; have hkr : Kq16 w10 wrb := Kq16.step (by assumption) hq; clear hq))
  have Q1 : Hid (Below w10.heap.size w10 _) := Lib.hid (Kq16.bel (W0 := w10) (by assumption))
  replace B := Lib.hid (B.out.trans (Q1.out.mono B.out.size))
  go_wp2_with fail
  go_ret
  exact ⟨rfl, B.out⟩
set_option maxRecDepth 100000 in
set_option maxHeartbeats 16000000 in
theorem chk17_nn (a : Pl) (nm S : ByteArray) (off E G : Int) (n17 c17 : Bool) (e0 : E ≠ 0) (g0 : G ≠ 0) (w : World) (hT : Tab w) (hs : nm.size ≤ 60) (hc1 : decide ((0 : Int) < (a.S.length : Int)) = c17) (hc2 : decide (0 < a.S.length) = c17)
    (HL : Hid (∀ w, Calls Tryz.prog 5 #[.agg #[.string ⟨a.N.toArray⟩, .string ⟨a.S.toArray⟩, .int .i64 a.O, .int .i64 a.A, .int .i64 a.B.K, .int .i64 a.B.M, .int .i64 a.B.W, .int .i64 a.B.D, .int .i64 a.B.T, .int .i64 a.E.K, .int .i64 a.E.M, .int .i64 a.E.W, .int .i64 a.E.D, .int .i64 a.E.T]] w fun x w' => x = .returned (.bool false) ∧ Below w.heap.size w w'))
    (HD : Hid (∀ w, Calls Tryz.prog 7 #[.agg #[.string ⟨a.N.toArray⟩, .string ⟨a.S.toArray⟩, .int .i64 a.O, .int .i64 a.A, .int .i64 a.B.K, .int .i64 a.B.M, .int .i64 a.B.W, .int .i64 a.B.D, .int .i64 a.B.T, .int .i64 a.E.K, .int .i64 a.E.M, .int .i64 a.E.W, .int .i64 a.E.D, .int .i64 a.E.T]] w fun x w' => x = .returned (.agg #[.string ⟨a.N.toArray⟩, .string ⟨a.S.toArray⟩, .int .i64 a.O, .int .i64 a.A, .int .i64 a.B.K, .int .i64 a.B.M, .int .i64 a.B.W, .int .i64 a.B.D, .int .i64 a.B.T, .int .i64 a.E.K, .int .i64 a.E.M, .int .i64 a.E.W, .int .i64 a.E.D, .int .i64 a.E.T]) ∧ Below w.heap.size w w'))
    (HK : Hid (∀ w, Calls Tryz.prog 6 #[.agg #[.string ⟨a.N.toArray⟩, .string ⟨a.S.toArray⟩, .int .i64 a.O, .int .i64 a.A, .int .i64 a.B.K, .int .i64 a.B.M, .int .i64 a.B.W, .int .i64 a.B.D, .int .i64 a.B.T, .int .i64 a.E.K, .int .i64 a.E.M, .int .i64 a.E.W, .int .i64 a.E.D, .int .i64 a.E.T]] w fun x w' => x = .returned (.int .i64 E) ∧ Below w.heap.size w w'))
    (HU : Hid (∀ w, Tab w → Calls Tryz.prog 8 #[.agg #[.string ⟨a.N.toArray⟩, .string ⟨a.S.toArray⟩, .int .i64 a.O, .int .i64 a.A, .int .i64 a.B.K, .int .i64 a.B.M, .int .i64 a.B.W, .int .i64 a.B.D, .int .i64 a.B.T, .int .i64 a.E.K, .int .i64 a.E.M, .int .i64 a.E.W, .int .i64 a.E.D, .int .i64 a.E.T]] w fun x w' => x = .returned (.tuple #[.string ⟨#[]⟩, ev E]) ∧ Below w.heap.size w w'))
    (HN1 : Hid (∀ w, Calls Tryz.prog 10 #[ev E] w fun x w' => x = .returned (.int .i64 E) ∧ w = w'))
    (HX : Hid (∀ w, Calls Tryz.prog 11 #[.agg #[.string ⟨a.N.toArray⟩, .string ⟨a.S.toArray⟩, .int .i64 a.O, .int .i64 a.A, .int .i64 a.B.K, .int .i64 a.B.M, .int .i64 a.B.W, .int .i64 a.B.D, .int .i64 a.B.T, .int .i64 a.E.K, .int .i64 a.E.M, .int .i64 a.E.W, .int .i64 a.E.D, .int .i64 a.E.T]] w fun x w' => x = .returned (ev E) ∧ Below w.heap.size w w'))
    (HC : Hid (∀ w, Calls Tryz.prog 12 #[.agg #[.string ⟨a.N.toArray⟩, .string ⟨a.S.toArray⟩, .int .i64 a.O, .int .i64 a.A, .int .i64 a.B.K, .int .i64 a.B.M, .int .i64 a.B.W, .int .i64 a.B.D, .int .i64 a.B.T, .int .i64 a.E.K, .int .i64 a.E.M, .int .i64 a.E.W, .int .i64 a.E.D, .int .i64 a.E.T]] w fun x w' => x = .returned (.bool c17) ∧ Below w.heap.size w w'))
    (HM1 : Hid (∀ w, Calls Tryz.prog 13 #[.string nm] w fun x w' => x = .returned (.bool n17) ∧ w = w'))
    (HM2 : Hid (∀ w, Calls Tryz.prog 14 #[.string nm] w fun x w' => x = .returned (.bool n17) ∧ w = w'))
    (HF : Hid (∀ w, Calls Tryz.prog 15 #[.string nm, .int .i64 off] w fun x w' => x = .returned (.tuple #[.agg (#[.string ⟨#[]⟩, .string ⟨#[]⟩, .int .i64 0, .int .i64 0, .int .i64 0, .int .i64 0, .int .i64 0, .int .i64 0, .int .i64 0, .int .i64 0, .int .i64 0, .int .i64 0, .int .i64 0, .int .i64 0] : Array Value), ev G]) ∧ Below w.heap.size w w'))
    (HK2 : Hid (∀ w, Calls Tryz.prog 6 #[.agg (#[.string nm, .string ⟨#[]⟩, .int .i64 off, .int .i64 0, .int .i64 0, .int .i64 0, .int .i64 0, .int .i64 0, .int .i64 0, .int .i64 0, .int .i64 0, .int .i64 0, .int .i64 0, .int .i64 0] : Array Value)] w fun x w' => x = .returned (.int .i64 G) ∧ Below w.heap.size w w'))
    (HN2 : Hid (∀ w, Calls Tryz.prog 10 #[ev G] w fun x w' => x = .returned (.int .i64 G) ∧ w = w'))
    : Calls Tryz.prog 3 #[.agg a.cells, .string nm, .int .i64 off] w fun x w' => x = .returned (.bool true) ∧ Below w.heap.size w w' := by
  have q0 := fun op t W x k => guard_ev op t W x k
  have q1 := fun W k => eql_ev W k
  have q2 := fun W k => neq_ev W k
  have t1 : decide ((60 : Int) < (nm.size : Int)) = false := decide_eq_false (by omega)
  have e1 := eq_no e0
  have g1 := eq_no g0
  have e2 := ne_yes e0
  have g2 := ne_yes g0
  have e3 : (E != E) = false := by simp
  have g3 : (G == G) = true := by simp
  have n3 : (n17 != n17) = false := by simp
  have c3 : (c17 != c17) = false := by simp
  clear e0 g0
  have eqp := fun w => eq_plan ⟨#[]⟩ ⟨#[]⟩ 0 0 0 0 0 0 0 0 0 0 0 0 w
  obtain ⟨W0, hW0⟩ : ∃ W0, W0 = w.alloc (.cells a.cells 25) := ⟨_, rfl⟩
  have B : Hid (Below w.heap.size w W0) := Lib.hid (by rw [hW0]; exact bel16 w _)
  have L0 : Plk W0 w.heap.size a := by rw [hW0]; exact plk_new _ _
  obtain ⟨c0, c1, c2, c3, c4, c5, c6, c7, c8, c9, c10, c11, c12, c13⟩ := L0.all
  have R := Lib.hid L0
  have T := Lib.hid (hT.below B.out)
  clear L0 hT
  have HA := Lib.hid (fun w => alive17_any w)
  go_enter Tryz.func3, Tryz.ntmps3
  go_upto_region 1 with fail
  rw [← hW0]; clear hW0
  go_upto_region 10 with (first
    | (go_at_call 4; with_reducible refine (HA.out _).mono ?_; rintro x w1 ⟨rfl, hb⟩; have R := Lib.hid (R.out.keep hb); have T := Lib.hid (T.out.below hb); have B := Lib.hid (B.out.trans (hb.mono B.out.size)); clear hb; obtain ⟨c0, c1, c2, c3, c4, c5, c6, c7, c8, c9, c10, c11, c12, c13⟩ := R.out.all)
    | (go_at_call 5; with_reducible refine (HL.out _).mono ?_; rintro x w2 ⟨rfl, hb⟩; have R := Lib.hid (R.out.keep hb); have T := Lib.hid (T.out.below hb); have B := Lib.hid (B.out.trans (hb.mono B.out.size)); clear hb; obtain ⟨c0, c1, c2, c3, c4, c5, c6, c7, c8, c9, c10, c11, c12, c13⟩ := R.out.all)
    | (go_at_call 7; with_reducible refine (HD.out _).mono ?_; rintro x w3 ⟨rfl, hb⟩; have R := Lib.hid (R.out.keep hb); have T := Lib.hid (T.out.below hb); have B := Lib.hid (B.out.trans (hb.mono B.out.size)); clear hb; obtain ⟨c0, c1, c2, c3, c4, c5, c6, c7, c8, c9, c10, c11, c12, c13⟩ := R.out.all)
    | (go_at_call 6; with_reducible refine (HK.out _).mono ?_; rintro x w4 ⟨rfl, hb⟩; have R := Lib.hid (R.out.keep hb); have T := Lib.hid (T.out.below hb); have B := Lib.hid (B.out.trans (hb.mono B.out.size)); clear hb; obtain ⟨c0, c1, c2, c3, c4, c5, c6, c7, c8, c9, c10, c11, c12, c13⟩ := R.out.all)
    | (go_at_call 8; with_reducible refine (HU.out _ T.out).mono ?_; rintro x w5 ⟨rfl, hb⟩; have R := Lib.hid (R.out.keep hb); have T := Lib.hid (T.out.below hb); have B := Lib.hid (B.out.trans (hb.mono B.out.size)); clear hb; obtain ⟨c0, c1, c2, c3, c4, c5, c6, c7, c8, c9, c10, c11, c12, c13⟩ := R.out.all))
  have HH : Hid (∀ W, Kq16 w5 W → (W.cell? ⟨w.heap.size, 0, none⟩ = some (.string ⟨a.N.toArray⟩) ∧ W.cell? ⟨w.heap.size, 1, none⟩ = some (.string ⟨a.S.toArray⟩) ∧ W.cell? ⟨w.heap.size, 2, none⟩ = some (.int .i64 a.O) ∧ W.cell? ⟨w.heap.size, 3, none⟩ = some (.int .i64 a.A) ∧ W.cell? ⟨w.heap.size, 4, none⟩ = some (.int .i64 a.B.K) ∧ W.cell? ⟨w.heap.size, 5, none⟩ = some (.int .i64 a.B.M) ∧ W.cell? ⟨w.heap.size, 6, none⟩ = some (.int .i64 a.B.W) ∧ W.cell? ⟨w.heap.size, 7, none⟩ = some (.int .i64 a.B.D) ∧ W.cell? ⟨w.heap.size, 8, none⟩ = some (.int .i64 a.B.T) ∧ W.cell? ⟨w.heap.size, 9, none⟩ = some (.int .i64 a.E.K) ∧ W.cell? ⟨w.heap.size, 10, none⟩ = some (.int .i64 a.E.M) ∧ W.cell? ⟨w.heap.size, 11, none⟩ = some (.int .i64 a.E.W) ∧ W.cell? ⟨w.heap.size, 12, none⟩ = some (.int .i64 a.E.D) ∧ W.cell? ⟨w.heap.size, 13, none⟩ = some (.int .i64 a.E.T)) ∧ Kq16 w5 W) := Lib.hid (fun W k => ⟨(R.out.keep k.bel).all, k⟩)
  have hKD : Kq16 w5 w5.drew := ⟨(Below.refl _ w5).drew⟩
  go_region_held3 (fun W => (W.cell? ⟨w.heap.size, 0, none⟩ = some (.string ⟨a.N.toArray⟩) ∧ W.cell? ⟨w.heap.size, 1, none⟩ = some (.string ⟨a.S.toArray⟩) ∧ W.cell? ⟨w.heap.size, 2, none⟩ = some (.int .i64 a.O) ∧ W.cell? ⟨w.heap.size, 3, none⟩ = some (.int .i64 a.A) ∧ W.cell? ⟨w.heap.size, 4, none⟩ = some (.int .i64 a.B.K) ∧ W.cell? ⟨w.heap.size, 5, none⟩ = some (.int .i64 a.B.M) ∧ W.cell? ⟨w.heap.size, 6, none⟩ = some (.int .i64 a.B.W) ∧ W.cell? ⟨w.heap.size, 7, none⟩ = some (.int .i64 a.B.D) ∧ W.cell? ⟨w.heap.size, 8, none⟩ = some (.int .i64 a.B.T) ∧ W.cell? ⟨w.heap.size, 9, none⟩ = some (.int .i64 a.E.K) ∧ W.cell? ⟨w.heap.size, 10, none⟩ = some (.int .i64 a.E.M) ∧ W.cell? ⟨w.heap.size, 11, none⟩ = some (.int .i64 a.E.W) ∧ W.cell? ⟨w.heap.size, 12, none⟩ = some (.int .i64 a.E.D) ∧ W.cell? ⟨w.heap.size, 13, none⟩ = some (.int .i64 a.E.T)) ∧ Kq16 w5 W)
    (exact HH.out _ (by assumption))
    (first
      | (go_at_call 10; go_split_ands; (with_reducible refine (HN1.out _).mono ?_); rintro er wra ⟨rfl, rfl⟩)
      | (go_at_call 11; go_split_ands; (with_reducible refine (HX.out _).mono ?_); rintro er wra ⟨rfl, hq⟩; have hkr : Kq16 w5 wra := Kq16.step (by assumption) hq; clear hq)
      | (go_at_call 12; go_split_ands; (with_reducible refine (HC.out _).mono ?_); rintro er wra ⟨rfl, hq⟩; have hkr : Kq16 w5 wra := Kq16.step (by assumption) hq; clear hq)
      | (go_at_call 13; go_split_ands; (with_reducible refine (HM1.out _).mono ?_); rintro er wra ⟨rfl, rfl⟩)
      | (go_at_call 14; go_split_ands; (with_reducible refine (HM2.out _).mono ?_); rintro er wra ⟨rfl, rfl⟩))
  have Q1 : Hid (Below w5.heap.size w5 _) := Lib.hid (Kq16.bel (W0 := w5) (by assumption))
  replace B := Lib.hid (B.out.trans (Q1.out.mono B.out.size))
  clear R T HH hKD
  go_upto_region 13 with (go_at_call 15; with_reducible refine (HF.out _).mono ?_; rintro x w7 ⟨rfl, hb⟩; have B := Lib.hid (B.out.trans (hb.mono B.out.size)); clear hb)
  have n8 : (w7.alloc (.cells (#[.string ⟨#[]⟩, .string ⟨#[]⟩, .int .i64 0, .int .i64 0, .int .i64 0, .int .i64 0, .int .i64 0, .int .i64 0, .int .i64 0, .int .i64 0, .int .i64 0, .int .i64 0, .int .i64 0, .int .i64 0] : Array Value) 25)).heap[w7.heap.size]? = some (.cells (#[.string ⟨#[]⟩, .string ⟨#[]⟩, .int .i64 0, .int .i64 0, .int .i64 0, .int .i64 0, .int .i64 0, .int .i64 0, .int .i64 0, .int .i64 0, .int .i64 0, .int .i64 0, .int .i64 0, .int .i64 0] : Array Value) 25 (0, 0)) := heap_alloc_new w7 _
  have b8 := B.out.alloc B.out.size (.cells (#[.string ⟨#[]⟩, .string ⟨#[]⟩, .int .i64 0, .int .i64 0, .int .i64 0, .int .i64 0, .int .i64 0, .int .i64 0, .int .i64 0, .int .i64 0, .int .i64 0, .int .i64 0, .int .i64 0, .int .i64 0] : Array Value) 25)
  obtain ⟨f, hf⟩ : ∃ f, f = w7.heap.size := ⟨_, rfl⟩
  obtain ⟨W8, hW8⟩ : ∃ W8, W8 = w7.alloc (.cells (#[.string ⟨#[]⟩, .string ⟨#[]⟩, .int .i64 0, .int .i64 0, .int .i64 0, .int .i64 0, .int .i64 0, .int .i64 0, .int .i64 0, .int .i64 0, .int .i64 0, .int .i64 0, .int .i64 0, .int .i64 0] : Array Value) 25) := ⟨_, rfl⟩
  rw [← hW8] at n8 b8
  rw [← hf] at n8
  rw [← hW8, ← hf]
  clear hW8 hf
  have m9 := bel_keep (bel16 W8 (.cells (#[.string nm, .string ⟨#[]⟩, .int .i64 off, .int .i64 0, .int .i64 0, .int .i64 0, .int .i64 0, .int .i64 0, .int .i64 0, .int .i64 0, .int .i64 0, .int .i64 0, .int .i64 0, .int .i64 0] : Array Value) 31)) n8
  have n9 : (W8.alloc (.cells (#[.string nm, .string ⟨#[]⟩, .int .i64 off, .int .i64 0, .int .i64 0, .int .i64 0, .int .i64 0, .int .i64 0, .int .i64 0, .int .i64 0, .int .i64 0, .int .i64 0, .int .i64 0, .int .i64 0] : Array Value) 31)).heap[W8.heap.size]? = some (.cells (#[.string nm, .string ⟨#[]⟩, .int .i64 off, .int .i64 0, .int .i64 0, .int .i64 0, .int .i64 0, .int .i64 0, .int .i64 0, .int .i64 0, .int .i64 0, .int .i64 0, .int .i64 0, .int .i64 0] : Array Value) 31 (0, 0)) := heap_alloc_new W8 _
  have b9 := b8.alloc b8.size (.cells (#[.string nm, .string ⟨#[]⟩, .int .i64 off, .int .i64 0, .int .i64 0, .int .i64 0, .int .i64 0, .int .i64 0, .int .i64 0, .int .i64 0, .int .i64 0, .int .i64 0, .int .i64 0, .int .i64 0] : Array Value) 31)
  go_upto_region 14 with fail
  obtain ⟨m, hm⟩ : ∃ m, m = W8.heap.size := ⟨_, rfl⟩
  obtain ⟨W9, hW9⟩ : ∃ W9, W9 = W8.alloc (.cells (#[.string nm, .string ⟨#[]⟩, .int .i64 off, .int .i64 0, .int .i64 0, .int .i64 0, .int .i64 0, .int .i64 0, .int .i64 0, .int .i64 0, .int .i64 0, .int .i64 0, .int .i64 0, .int .i64 0] : Array Value) 31) := ⟨_, rfl⟩
  rw [← hW9] at m9 n9 b9
  rw [← hm] at n9
  rw [← hW9, ← hm]
  clear hW9 hm n8 b8
  have R := Lib.hid m9
  have M := Lib.hid n9
  replace B := Lib.hid b9
  clear m9 n9 b9
  obtain ⟨f0, f1, f2, f3, f4, f5, f6, f7, f8, f9, f10, f11, f12, f13⟩ := see_block14 R.out
  obtain ⟨m0, m1, m2, m3, m4, m5, m6, m7, m8, m9, m10, m11, m12, m13⟩ := see_block14 M.out
  go_wp2_with (first
    | (go_at_call 6; with_reducible refine (HK2.out _).mono ?_; rintro x w10 ⟨rfl, hb⟩; have R := Lib.hid (bel_keep hb R.out); have M := Lib.hid (bel_keep hb M.out); have B := Lib.hid (B.out.trans (hb.mono B.out.size)); clear hb; obtain ⟨f0, f1, f2, f3, f4, f5, f6, f7, f8, f9, f10, f11, f12, f13⟩ := see_block14 R.out; obtain ⟨m0, m1, m2, m3, m4, m5, m6, m7, m8, m9, m10, m11, m12, m13⟩ := see_block14 M.out)
    | (go_at_call 10; with_reducible refine (HN2.out _).mono ?_; rintro x w11 ⟨rfl, rfl⟩))
  go_ret
  exact ⟨rfl, B.out⟩
theorem poschk_any (a : Pl) (nm : ByteArray) (off : Int) (w : World) (hT : Tab w) (hn : a.N.length ≤ maxLen) (hS : a.S.length ≤ maxLen) (hs : nm.size ≤ maxLen) :
    Calls Tryz.prog 3 #[.agg a.cells, .string nm, .int .i64 off] w fun x w' => x = .returned (.bool true) ∧ Below w.heap.size w w' := by
  have HL := fun w => long17_any a w hn hS
  by_cases h1 : (decide (60 < a.N.length) || decide (60 < a.S.length)) = true
  · rw [h1] at HL
    exact chk17_l1 a nm off w hT (Lib.hid HL)
  · have h1' : (decide (60 < a.N.length) || decide (60 < a.S.length)) = false := by simpa using h1
    rw [h1'] at HL
    simp only [Bool.or_eq_false_iff, decide_eq_false_iff_not] at h1'
    by_cases h2 : 60 < nm.size
    · exact chk17_l2 a nm off w hT h2 hs (Lib.hid HL)
    · have h3 : nm.size ≤ 60 := by omega
      have hsz : nm.data.toList.length = nm.size := by simp
      have HD := fun w => pdoc_any a w
      have HK := fun w => dcheck17_any a w (by omega) (by omega)
      have HU := fun w t => put17_any a w t (by omega) (by omega)
      have HX := fun w => plcheck_any a w (by omega) (by omega)
      have HC := fun w => changes_any a w (by omega)
      rw [show (!decide (a.S = [])) = decide (0 < a.S.length) by cases a.S <;> simp] at HC
      have HM1 := fun w => name_any nm w (by omega)
      have HM2 := fun w => dname_any nm w (by omega)
      have HF := fun w => fixed17_any nm off w (by omega)
      have HK2 := fun w => dcheck17_any (fxP nm.data.toList off) w (by show nm.data.toList.length ≤ _; omega) (Nat.zero_le _)
      have HD2 := fun w => pdoc_any (fxP nm.data.toList off) w
      have hc1 : decide ((0 : Int) < (a.S.length : Int)) = decide (0 < a.S.length) := by rw [decide_eq_decide]; omega
      have b1 := plE_bd a
      have b2 := plE_bd (fxP nm.data.toList off)
      have HN1 := fun w => num_any (plE a) w b1.1 b1.2
      have HN2 := fun w => num_any (plE (fxP nm.data.toList off)) w b2.1 b2.2
      by_cases d : plE a = 0
      · have HV := fun w => dput17_any a w d
        rw [show ptP a = plL a from if_pos d, d] at HU
        rw [d] at HK HX HN1
        by_cases e : plE (fxP nm.data.toList off) = 0
        · rw [if_pos e, e] at HF
          rw [e] at HK2
          exact chk17_yy a nm _ off 1 1 _ _ (by decide) (by decide) w hT h3 hc1 rfl (Lib.hid HL) (Lib.hid HD) (Lib.hid HK) (Lib.hid HU) (Lib.hid HV) (Lib.hid HN1) (Lib.hid HX) (Lib.hid HC) (Lib.hid HM1) (Lib.hid HM2) (Lib.hid HF) (Lib.hid HK2) (Lib.hid HD2)
        · rw [if_neg e] at HF
          exact chk17_yn a nm _ off 1 _ _ _ (by decide) e w hT h3 hc1 rfl (Lib.hid HL) (Lib.hid HD) (Lib.hid HK) (Lib.hid HU) (Lib.hid HV) (Lib.hid HN1) (Lib.hid HX) (Lib.hid HC) (Lib.hid HM1) (Lib.hid HM2) (Lib.hid HF) (Lib.hid HK2) (Lib.hid HN2)
      · rw [show ptP a = [] from if_neg d] at HU
        by_cases e : plE (fxP nm.data.toList off) = 0
        · rw [if_pos e, e] at HF
          rw [e] at HK2
          exact chk17_ny a nm ⟨#[]⟩ off _ 1 _ _ d (by decide) w hT h3 hc1 rfl (Lib.hid HL) (Lib.hid HD) (Lib.hid HK) (Lib.hid HU) (Lib.hid HN1) (Lib.hid HX) (Lib.hid HC) (Lib.hid HM1) (Lib.hid HM2) (Lib.hid HF) (Lib.hid HK2) (Lib.hid HD2)
        · rw [if_neg e] at HF
          exact chk17_nn a nm ⟨#[]⟩ off _ _ _ _ d e w hT h3 hc1 rfl (Lib.hid HL) (Lib.hid HD) (Lib.hid HK) (Lib.hid HU) (Lib.hid HN1) (Lib.hid HX) (Lib.hid HC) (Lib.hid HM1) (Lib.hid HM2) (Lib.hid HF) (Lib.hid HK2) (Lib.hid HN2)
end Go.Proofs.YtkhcneacjnpcnaaGreatDoor
