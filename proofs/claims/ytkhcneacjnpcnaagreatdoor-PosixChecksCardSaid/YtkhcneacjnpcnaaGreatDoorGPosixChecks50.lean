/- Merged: PosP. -/
import Derived.Test.YtkhcneacjnpcnaaGreatDoorGPosixChecks43
import Derived.Test.YtkhcneacjnpcnaaGreatDoorGPosixChecks45
import Derived.Test.YtkhcneacjnpcnaaGreatDoorGPosixChecks47
import Derived.Test.YtkhcneacjnpcnaaGreatDoorGPosixChecks49
namespace Go.Proofs.YtkhcneacjnpcnaaGreatDoor
open Go.RowKit
set_option linter.unusedVariables false
set_option linter.unusedSimpArgs false

set_option maxHeartbeats 2000000 in
theorem quoted_any (s : ByteArray) (w : World) (hs : s.size ≤ 100) :
    Calls Tryz.prog 23 #[.string s] w fun x w' => x = .returned (.string ⟨(nmL s.data.toList).toArray⟩) ∧ Below w.heap.size w w' := by
  have hsz : s.data.toList.length = s.size := by simp
  have u1 : (⟨#[60]⟩ : ByteArray).size = 1 := rfl
  have u2 : (⟨#[62]⟩ : ByteArray).size = 1 := rfl
  obtain ⟨X1, A1, g1, j1⟩ := add_ba ⟨#[60]⟩ s (by rw [u1]; decide) (by omega)
  obtain ⟨X2, A2, g2, j2⟩ := add_ba X1 ⟨#[62]⟩ (by omega) (by rw [u2]; decide)
  have hF : s.data.toList.all ltB = false → Value.string X2 = .string ⟨(nmL s.data.toList).toArray⟩ := fun h => str_is (by rw [g2, g1]; unfold nmL; rw [if_neg (by rw [h]; decide)]; rfl)
  have hY : s.data.toList.all ltB = true → Value.string s = .string ⟨(nmL s.data.toList).toArray⟩ := fun h => str_is (by unfold nmL; rw [if_pos h])
  obtain ⟨R, hR⟩ : ∃ R, R = s.data.toList.all ltB := ⟨_, rfl⟩
  rw [← hR] at hF hY
  generalize (⟨(nmL s.data.toList).toArray⟩ : ByteArray) = Y at *
  have HF := Lib.hid hF; have HY := Lib.hid hY; have HR := Lib.hid hR; have HZ := Lib.hid hsz
  clear hF hY hR hsz u1 u2 g1 g2 j1 j2
  go_enter Tryz.func23, Tryz.ntmps23
  go_wp2
  go_loop [3] (fun i => ∃ j : Nat, i = .int .i64 j ∧ j ≤ s.size ∧ Hid (R = (s.data.toList.drop j).all ltB)) (fun i => s.size - (intOf i).toNat)
  case atStart => exact ⟨0, rfl, Nat.zero_le _, by rw [List.drop_zero]; exact HR⟩
  case round =>
    obtain ⟨j, rfl, hj, HJ⟩ := hrel
    by_cases hlt : j < s.size
    · have hst := all_step (p := ltB) (l := s.data.toList) (i := j) (by rw [HZ.out]; exact hlt)
      have hst2 : (s.data.toList.drop j).all ltB = (ltB s[j] && (s.data.toList.drop (j + 1)).all ltB) := hst
      have HLL := Lib.hid (fun w => dletter_any s[j] w)
      clear hst
      generalize ltB s[j] = x at *
      cases x with
      | true =>
        have hr : R = (s.data.toList.drop (j + 1)).all ltB := by rw [HJ.out, hst2, Bool.true_and]
        have HR2 := Lib.hid hr
        clear hr hst2
        go_wp2_with (go_at_call 30; refine (HLL.out _).mono ?_; rintro x w' ⟨rfl, rfl⟩)
        go_round
        case rel => exact ⟨j + 1, by go_num, by omega, HR2⟩
        case measure => simp [intOf]; omega
      | false =>
        have hr : R = false := by rw [HJ.out, hst2, Bool.false_and]
        have HX := Lib.hid (HF.out hr)
        clear hr hst2
        go_wp2_with (go_at_call 30; refine (HLL.out _).mono ?_; rintro x w' ⟨rfl, rfl⟩)
        go_ret
        exact ⟨ret1_eq HX.out, Below.refl _ _⟩
    · have hr : R = true := by rw [HJ.out]; exact all_end (by rw [HZ.out]; omega)
      have HX := Lib.hid (HY.out hr)
      clear hr
      go_wp2
      go_ret
      exact ⟨ret1_eq HX.out, Below.refl _ _⟩
/-- The document's plan, in its own box. -/
def Pld (w : World) (p : Nat) (a : Pl) : Prop := w.heap[p]? = some (.cells a.cells 31 (0, 0))
theorem Pld.keep {w w' : World} {p : Nat} {a : Pl} (h : Pld w p a) (hb : Below w.heap.size w w') : Pld w' p a := bel_keep hb h
theorem Pld.all {w : World} {p : Nat} {a : Pl} (h : Pld w p a) : w.cell? ⟨p, 0, none⟩ = some (.string ⟨a.N.toArray⟩) ∧ w.cell? ⟨p, 1, none⟩ = some (.string ⟨a.S.toArray⟩) ∧ w.cell? ⟨p, 2, none⟩ = some (.int .i64 a.O) ∧ w.cell? ⟨p, 3, none⟩ = some (.int .i64 a.A) ∧ w.cell? ⟨p, 4, none⟩ = some (.int .i64 a.B.K) ∧ w.cell? ⟨p, 5, none⟩ = some (.int .i64 a.B.M) ∧ w.cell? ⟨p, 6, none⟩ = some (.int .i64 a.B.W) ∧ w.cell? ⟨p, 7, none⟩ = some (.int .i64 a.B.D) ∧ w.cell? ⟨p, 8, none⟩ = some (.int .i64 a.B.T) ∧ w.cell? ⟨p, 9, none⟩ = some (.int .i64 a.E.K) ∧ w.cell? ⟨p, 10, none⟩ = some (.int .i64 a.E.M) ∧ w.cell? ⟨p, 11, none⟩ = some (.int .i64 a.E.W) ∧ w.cell? ⟨p, 12, none⟩ = some (.int .i64 a.E.D) ∧ w.cell? ⟨p, 13, none⟩ = some (.int .i64 a.E.T) := see_block14 h
theorem pld_new (w : World) (a : Pl) : Pld (w.alloc (.cells a.cells 31)) w.heap.size a := heap_alloc_new w _
theorem pld_x {W0 : World} {p : Nat} {a : Pl} (h : Pld W0 p a) : ∀ W, Kq16 W0 W → (W.cell? ⟨p, 0, none⟩ = some (.string ⟨a.N.toArray⟩) ∧ W.cell? ⟨p, 2, none⟩ = some (.int .i64 a.O)) ∧ Kq16 W0 W := fun W k => by
  obtain ⟨c0, c1, c2, c3, c4, c5, c6, c7, c8, c9, c10, c11, c12, c13⟩ := (h.keep k.bel).all
  exact ⟨⟨c0, c2⟩, k⟩
theorem pld_z {W0 : World} {p : Nat} {a : Pl} (h : Pld W0 p a) : ∀ W, Kq16 W0 W → (W.cell? ⟨p, 4, none⟩ = some (.int .i64 a.B.K) ∧ W.cell? ⟨p, 5, none⟩ = some (.int .i64 a.B.M) ∧ W.cell? ⟨p, 6, none⟩ = some (.int .i64 a.B.W) ∧ W.cell? ⟨p, 7, none⟩ = some (.int .i64 a.B.D) ∧ W.cell? ⟨p, 8, none⟩ = some (.int .i64 a.B.T) ∧ W.cell? ⟨p, 9, none⟩ = some (.int .i64 a.E.K) ∧ W.cell? ⟨p, 10, none⟩ = some (.int .i64 a.E.M) ∧ W.cell? ⟨p, 11, none⟩ = some (.int .i64 a.E.W) ∧ W.cell? ⟨p, 12, none⟩ = some (.int .i64 a.E.D) ∧ W.cell? ⟨p, 13, none⟩ = some (.int .i64 a.E.T)) ∧ Kq16 W0 W := fun W k => by
  obtain ⟨c0, c1, c2, c3, c4, c5, c6, c7, c8, c9, c10, c11, c12, c13⟩ := (h.keep k.bel).all
  exact ⟨⟨c4, c5, c6, c7, c8, c9, c10, c11, c12, c13⟩, k⟩
set_option maxRecDepth 100000 in
set_option maxHeartbeats 8000000 in
theorem dput17_f (a : Pl) (S1 S2 S3 S4 S5 S6 X1 X2 X3 X4 X5 X6 X7 : ByteArray) (O2 A2 u : Int) (hO : IntKind.i64.wrap (0 - a.O) = O2) (hO3 : IntKind.i64.wrap (-a.O) = O2) (hA : IntKind.i64.wrap (0 - a.A) = A2) (hA3 : IntKind.i64.wrap (-a.A) = A2) (hU : IntKind.i64.wrap (a.A - a.O) = u) (ts : ((a.S.length : Int) == 0) = true) (w : World)
    (HN : Hid (∀ w, Calls Tryz.prog 23 #[.string ⟨a.N.toArray⟩] w fun x w' => x = .returned (.string S1) ∧ Below w.heap.size w w'))
    (HO : Hid (∀ w, Calls Tryz.prog 24 #[.int .i64 O2] w fun x w' => x = .returned (.string S2) ∧ Below w.heap.size w w'))
    (P1 : ∀ W, (Op.stringOp .add S1 S2).run Tryz.prog W = .ok (.string X1) W)
    : Calls Tryz.prog 9 #[.agg a.cells] w fun x w' => x = .returned (.string X1) ∧ Below w.heap.size w w' := by
  obtain ⟨W0, hW0⟩ : ∃ W0, W0 = w.alloc (.cells a.cells 31) := ⟨_, rfl⟩
  have B0 : Hid (Below w.heap.size w W0) := Lib.hid (by rw [hW0]; exact bel16 w _)
  have L0 : Pld W0 w.heap.size a := by rw [hW0]; exact pld_new _ _
  obtain ⟨c0, c1, c2, c3, c4, c5, c6, c7, c8, c9, c10, c11, c12, c13⟩ := L0.all
  have R0 := Lib.hid L0
  clear L0
  go_enter Tryz.func9, Tryz.ntmps9
  go_upto_region 1 with fail
  rw [← hW0]; clear hW0
  have HH := Lib.hid (pld_x R0.out)
  have hKD : Kq16 W0 W0.drew := ⟨(Below.refl _ W0).drew⟩
  go_region_held3 (fun W => (W.cell? ⟨w.heap.size, 0, none⟩ = some (.string ⟨a.N.toArray⟩) ∧ W.cell? ⟨w.heap.size, 2, none⟩ = some (.int .i64 a.O)) ∧ Kq16 W0 W)
    (exact HH.out _ (by assumption))
    (first
      | (go_at_call 23; go_split_ands; (with_reducible refine (HN.out _).mono ?_); rintro er wra ⟨rfl, hq⟩; have hkr : Kq16 W0 wra := Kq16.step (by assumption) hq; clear hq)
      | (go_at_call 24; go_split_ands; (with_reducible refine (HO.out _).mono ?_); rintro er wra ⟨rfl, hq⟩; have hkr : Kq16 W0 wra := Kq16.step (by assumption) hq; clear hq))
  have Q1 : Hid (Below W0.heap.size W0 _) := Lib.hid (Kq16.bel (W0 := W0) (by assumption))
  obtain ⟨c0, c1, c2, c3, c4, c5, c6, c7, c8, c9, c10, c11, c12, c13⟩ := (R0.out.keep Q1.out).all
  replace R0 := Lib.hid (R0.out.keep Q1.out)
  replace B0 := Lib.hid (B0.out.trans (Q1.out.mono B0.out.size))
  go_wp2_with fail
  go_ret
  exact ⟨rfl, B0.out⟩
set_option maxRecDepth 100000 in
set_option maxHeartbeats 8000000 in
theorem dput17_u (a : Pl) (S1 S2 S3 S4 S5 S6 X1 X2 X3 X4 X5 X6 X7 : ByteArray) (O2 A2 u : Int) (hO : IntKind.i64.wrap (0 - a.O) = O2) (hO3 : IntKind.i64.wrap (-a.O) = O2) (hA : IntKind.i64.wrap (0 - a.A) = A2) (hA3 : IntKind.i64.wrap (-a.A) = A2) (hU : IntKind.i64.wrap (a.A - a.O) = u) (tu : (u != 3600) = false) (ts : ((a.S.length : Int) == 0) = false) (w : World)
    (HN : Hid (∀ w, Calls Tryz.prog 23 #[.string ⟨a.N.toArray⟩] w fun x w' => x = .returned (.string S1) ∧ Below w.heap.size w w'))
    (HO : Hid (∀ w, Calls Tryz.prog 24 #[.int .i64 O2] w fun x w' => x = .returned (.string S2) ∧ Below w.heap.size w w'))
    (P1 : ∀ W, (Op.stringOp .add S1 S2).run Tryz.prog W = .ok (.string X1) W)
    (HS : Hid (∀ w, Calls Tryz.prog 23 #[.string ⟨a.S.toArray⟩] w fun x w' => x = .returned (.string S3) ∧ Below w.heap.size w w'))
    (P2 : ∀ W, (Op.stringOp .add X1 S3).run Tryz.prog W = .ok (.string X2) W)
    (P4 : ∀ W, (Op.stringOp .add X2 ⟨#[44]⟩).run Tryz.prog W = .ok (.string X4) W)
    (P5 : ∀ W, (Op.stringOp .add X4 S5).run Tryz.prog W = .ok (.string X5) W)
    (P6 : ∀ W, (Op.stringOp .add X5 ⟨#[44]⟩).run Tryz.prog W = .ok (.string X6) W)
    (P7 : ∀ W, (Op.stringOp .add X6 S6).run Tryz.prog W = .ok (.string X7) W)
    (HB : Hid (∀ w, Calls Tryz.prog 25 #[.agg #[.int .i64 a.B.K, .int .i64 a.B.M, .int .i64 a.B.W, .int .i64 a.B.D, .int .i64 a.B.T]] w fun x w' => x = .returned (.string S5) ∧ Below w.heap.size w w'))
    (HE : Hid (∀ w, Calls Tryz.prog 25 #[.agg #[.int .i64 a.E.K, .int .i64 a.E.M, .int .i64 a.E.W, .int .i64 a.E.D, .int .i64 a.E.T]] w fun x w' => x = .returned (.string S6) ∧ Below w.heap.size w w'))
    : Calls Tryz.prog 9 #[.agg a.cells] w fun x w' => x = .returned (.string X7) ∧ Below w.heap.size w w' := by
  obtain ⟨W0, hW0⟩ : ∃ W0, W0 = w.alloc (.cells a.cells 31) := ⟨_, rfl⟩
  have B0 : Hid (Below w.heap.size w W0) := Lib.hid (by rw [hW0]; exact bel16 w _)
  have L0 : Pld W0 w.heap.size a := by rw [hW0]; exact pld_new _ _
  obtain ⟨c0, c1, c2, c3, c4, c5, c6, c7, c8, c9, c10, c11, c12, c13⟩ := L0.all
  have R0 := Lib.hid L0
  clear L0
  go_enter Tryz.func9, Tryz.ntmps9
  go_upto_region 1 with fail
  rw [← hW0]; clear hW0
  have HH := Lib.hid (pld_x R0.out)
  have hKD : Kq16 W0 W0.drew := ⟨(Below.refl _ W0).drew⟩
  go_region_held3 (fun W => (W.cell? ⟨w.heap.size, 0, none⟩ = some (.string ⟨a.N.toArray⟩) ∧ W.cell? ⟨w.heap.size, 2, none⟩ = some (.int .i64 a.O)) ∧ Kq16 W0 W)
    (exact HH.out _ (by assumption))
    (first
      | (go_at_call 23; go_split_ands; (with_reducible refine (HN.out _).mono ?_); rintro er wra ⟨rfl, hq⟩; have hkr : Kq16 W0 wra := Kq16.step (by assumption) hq; clear hq)
      | (go_at_call 24; go_split_ands; (with_reducible refine (HO.out _).mono ?_); rintro er wra ⟨rfl, hq⟩; have hkr : Kq16 W0 wra := Kq16.step (by assumption) hq; clear hq))
  have Q1 : Hid (Below W0.heap.size W0 _) := Lib.hid (Kq16.bel (W0 := W0) (by assumption))
  obtain ⟨c0, c1, c2, c3, c4, c5, c6, c7, c8, c9, c10, c11, c12, c13⟩ := (R0.out.keep Q1.out).all
  replace R0 := Lib.hid (R0.out.keep Q1.out)
  replace B0 := Lib.hid (B0.out.trans (Q1.out.mono B0.out.size))
  go_upto_region 7 with (first
    | (go_at_call 23; with_reducible refine (HS.out _).mono ?_; rintro x w3 ⟨rfl, hb⟩; obtain ⟨c0, c1, c2, c3, c4, c5, c6, c7, c8, c9, c10, c11, c12, c13⟩ := (R0.out.keep hb).all; have R0 := Lib.hid (R0.out.keep hb); have B0 := Lib.hid (B0.out.trans (hb.mono B0.out.size)); clear hb))
  have HH := Lib.hid (pld_z R0.out)
  have hKD : Kq16 w3 w3.drew := ⟨(Below.refl _ w3).drew⟩
  go_region_held3 (fun W => (W.cell? ⟨w.heap.size, 4, none⟩ = some (.int .i64 a.B.K) ∧ W.cell? ⟨w.heap.size, 5, none⟩ = some (.int .i64 a.B.M) ∧ W.cell? ⟨w.heap.size, 6, none⟩ = some (.int .i64 a.B.W) ∧ W.cell? ⟨w.heap.size, 7, none⟩ = some (.int .i64 a.B.D) ∧ W.cell? ⟨w.heap.size, 8, none⟩ = some (.int .i64 a.B.T) ∧ W.cell? ⟨w.heap.size, 9, none⟩ = some (.int .i64 a.E.K) ∧ W.cell? ⟨w.heap.size, 10, none⟩ = some (.int .i64 a.E.M) ∧ W.cell? ⟨w.heap.size, 11, none⟩ = some (.int .i64 a.E.W) ∧ W.cell? ⟨w.heap.size, 12, none⟩ = some (.int .i64 a.E.D) ∧ W.cell? ⟨w.heap.size, 13, none⟩ = some (.int .i64 a.E.T)) ∧ Kq16 w3 W)
    (exact HH.out _ (by assumption))
    (first
      | (go_at_call 25; go_split_ands; (with_reducible refine (HB.out _).mono ?_); rintro er wrc ⟨rfl, hq⟩; have hkr : Kq16 w3 wrc := Kq16.step (by assumption) hq; clear hq)
      | (go_at_call 25; go_split_ands; (with_reducible refine (HE.out _).mono ?_); rintro er wrc ⟨rfl, hq⟩; have hkr : Kq16 w3 wrc := Kq16.step (by assumption) hq; clear hq))
  have Q1 : Hid (Below w3.heap.size w3 _) := Lib.hid (Kq16.bel (W0 := w3) (by assumption))
  obtain ⟨c0, c1, c2, c3, c4, c5, c6, c7, c8, c9, c10, c11, c12, c13⟩ := (R0.out.keep Q1.out).all
  replace R0 := Lib.hid (R0.out.keep Q1.out)
  replace B0 := Lib.hid (B0.out.trans (Q1.out.mono B0.out.size))
  go_wp2_with fail
  go_ret
  exact ⟨rfl, B0.out⟩
set_option maxRecDepth 100000 in
set_option maxHeartbeats 8000000 in
theorem dput17_t (a : Pl) (S1 S2 S3 S4 S5 S6 X1 X2 X3 X4 X5 X6 X7 : ByteArray) (O2 A2 u : Int) (hO : IntKind.i64.wrap (0 - a.O) = O2) (hO3 : IntKind.i64.wrap (-a.O) = O2) (hA : IntKind.i64.wrap (0 - a.A) = A2) (hA3 : IntKind.i64.wrap (-a.A) = A2) (hU : IntKind.i64.wrap (a.A - a.O) = u) (tu : (u != 3600) = true) (ts : ((a.S.length : Int) == 0) = false) (w : World)
    (HN : Hid (∀ w, Calls Tryz.prog 23 #[.string ⟨a.N.toArray⟩] w fun x w' => x = .returned (.string S1) ∧ Below w.heap.size w w'))
    (HO : Hid (∀ w, Calls Tryz.prog 24 #[.int .i64 O2] w fun x w' => x = .returned (.string S2) ∧ Below w.heap.size w w'))
    (P1 : ∀ W, (Op.stringOp .add S1 S2).run Tryz.prog W = .ok (.string X1) W)
    (HS : Hid (∀ w, Calls Tryz.prog 23 #[.string ⟨a.S.toArray⟩] w fun x w' => x = .returned (.string S3) ∧ Below w.heap.size w w'))
    (P2 : ∀ W, (Op.stringOp .add X1 S3).run Tryz.prog W = .ok (.string X2) W)
    (HA : Hid (∀ w, Calls Tryz.prog 24 #[.int .i64 A2] w fun x w' => x = .returned (.string S4) ∧ Below w.heap.size w w'))
    (P3 : ∀ W, (Op.stringOp .add X2 S4).run Tryz.prog W = .ok (.string X3) W)
    (P4 : ∀ W, (Op.stringOp .add X3 ⟨#[44]⟩).run Tryz.prog W = .ok (.string X4) W)
    (P5 : ∀ W, (Op.stringOp .add X4 S5).run Tryz.prog W = .ok (.string X5) W)
    (P6 : ∀ W, (Op.stringOp .add X5 ⟨#[44]⟩).run Tryz.prog W = .ok (.string X6) W)
    (P7 : ∀ W, (Op.stringOp .add X6 S6).run Tryz.prog W = .ok (.string X7) W)
    (HB : Hid (∀ w, Calls Tryz.prog 25 #[.agg #[.int .i64 a.B.K, .int .i64 a.B.M, .int .i64 a.B.W, .int .i64 a.B.D, .int .i64 a.B.T]] w fun x w' => x = .returned (.string S5) ∧ Below w.heap.size w w'))
    (HE : Hid (∀ w, Calls Tryz.prog 25 #[.agg #[.int .i64 a.E.K, .int .i64 a.E.M, .int .i64 a.E.W, .int .i64 a.E.D, .int .i64 a.E.T]] w fun x w' => x = .returned (.string S6) ∧ Below w.heap.size w w'))
    : Calls Tryz.prog 9 #[.agg a.cells] w fun x w' => x = .returned (.string X7) ∧ Below w.heap.size w w' := by
  obtain ⟨W0, hW0⟩ : ∃ W0, W0 = w.alloc (.cells a.cells 31) := ⟨_, rfl⟩
  have B0 : Hid (Below w.heap.size w W0) := Lib.hid (by rw [hW0]; exact bel16 w _)
  have L0 : Pld W0 w.heap.size a := by rw [hW0]; exact pld_new _ _
  obtain ⟨c0, c1, c2, c3, c4, c5, c6, c7, c8, c9, c10, c11, c12, c13⟩ := L0.all
  have R0 := Lib.hid L0
  clear L0
  go_enter Tryz.func9, Tryz.ntmps9
  go_upto_region 1 with fail
  rw [← hW0]; clear hW0
  have HH := Lib.hid (pld_x R0.out)
  have hKD : Kq16 W0 W0.drew := ⟨(Below.refl _ W0).drew⟩
  go_region_held3 (fun W => (W.cell? ⟨w.heap.size, 0, none⟩ = some (.string ⟨a.N.toArray⟩) ∧ W.cell? ⟨w.heap.size, 2, none⟩ = some (.int .i64 a.O)) ∧ Kq16 W0 W)
    (exact HH.out _ (by assumption))
    (first
      | (go_at_call 23; go_split_ands; (with_reducible refine (HN.out _).mono ?_); rintro er wra ⟨rfl, hq⟩; have hkr : Kq16 W0 wra := Kq16.step (by assumption) hq; clear hq)
      | (go_at_call 24; go_split_ands; (with_reducible refine (HO.out _).mono ?_); rintro er wra ⟨rfl, hq⟩; have hkr : Kq16 W0 wra := Kq16.step (by assumption) hq; clear hq))
  have Q1 : Hid (Below W0.heap.size W0 _) := Lib.hid (Kq16.bel (W0 := W0) (by assumption))
  obtain ⟨c0, c1, c2, c3, c4, c5, c6, c7, c8, c9, c10, c11, c12, c13⟩ := (R0.out.keep Q1.out).all
  replace R0 := Lib.hid (R0.out.keep Q1.out)
  replace B0 := Lib.hid (B0.out.trans (Q1.out.mono B0.out.size))
  go_upto_region 7 with (first
    | (go_at_call 23; with_reducible refine (HS.out _).mono ?_; rintro x w3 ⟨rfl, hb⟩; obtain ⟨c0, c1, c2, c3, c4, c5, c6, c7, c8, c9, c10, c11, c12, c13⟩ := (R0.out.keep hb).all; have R0 := Lib.hid (R0.out.keep hb); have B0 := Lib.hid (B0.out.trans (hb.mono B0.out.size)); clear hb)
    | (go_at_call 24; with_reducible refine (HA.out _).mono ?_; rintro x w4 ⟨rfl, hb⟩; obtain ⟨c0, c1, c2, c3, c4, c5, c6, c7, c8, c9, c10, c11, c12, c13⟩ := (R0.out.keep hb).all; have R0 := Lib.hid (R0.out.keep hb); have B0 := Lib.hid (B0.out.trans (hb.mono B0.out.size)); clear hb))
  have HH := Lib.hid (pld_z R0.out)
  have hKD : Kq16 w4 w4.drew := ⟨(Below.refl _ w4).drew⟩
  go_region_held3 (fun W => (W.cell? ⟨w.heap.size, 4, none⟩ = some (.int .i64 a.B.K) ∧ W.cell? ⟨w.heap.size, 5, none⟩ = some (.int .i64 a.B.M) ∧ W.cell? ⟨w.heap.size, 6, none⟩ = some (.int .i64 a.B.W) ∧ W.cell? ⟨w.heap.size, 7, none⟩ = some (.int .i64 a.B.D) ∧ W.cell? ⟨w.heap.size, 8, none⟩ = some (.int .i64 a.B.T) ∧ W.cell? ⟨w.heap.size, 9, none⟩ = some (.int .i64 a.E.K) ∧ W.cell? ⟨w.heap.size, 10, none⟩ = some (.int .i64 a.E.M) ∧ W.cell? ⟨w.heap.size, 11, none⟩ = some (.int .i64 a.E.W) ∧ W.cell? ⟨w.heap.size, 12, none⟩ = some (.int .i64 a.E.D) ∧ W.cell? ⟨w.heap.size, 13, none⟩ = some (.int .i64 a.E.T)) ∧ Kq16 w4 W)
    (exact HH.out _ (by assumption))
    (first
      | (go_at_call 25; go_split_ands; (with_reducible refine (HB.out _).mono ?_); rintro er wrc ⟨rfl, hq⟩; have hkr : Kq16 w4 wrc := Kq16.step (by assumption) hq; clear hq)
      | (go_at_call 25; go_split_ands; (with_reducible refine (HE.out _).mono ?_); rintro er wrc ⟨rfl, hq⟩; have hkr : Kq16 w4 wrc := Kq16.step (by assumption) hq; clear hq))
  have Q1 : Hid (Below w4.heap.size w4 _) := Lib.hid (Kq16.bel (W0 := w4) (by assumption))
  obtain ⟨c0, c1, c2, c3, c4, c5, c6, c7, c8, c9, c10, c11, c12, c13⟩ := (R0.out.keep Q1.out).all
  replace R0 := Lib.hid (R0.out.keep Q1.out)
  replace B0 := Lib.hid (B0.out.trans (Q1.out.mono B0.out.size))
  go_wp2_with fail
  go_ret
  exact ⟨rfl, B0.out⟩
set_option maxHeartbeats 2000000 in
theorem dput17_any (a : Pl) (w : World) (h : plE a = 0) :
    Calls Tryz.prog 9 #[.agg a.cells] w fun x w' => x = .returned (.string ⟨(plL a).toArray⟩) ∧ Below w.heap.size w w' := by
  obtain ⟨hN, ho, ha, hc⟩ := plE_zero h
  have n1 := nmL_len hN
  have zN : (⟨a.N.toArray⟩ : ByteArray).size = a.N.length := Lib.size_mk _
  have zS : (⟨a.S.toArray⟩ : ByteArray).size = a.S.length := Lib.size_mk _
  have HN := fun w => quoted_any ⟨a.N.toArray⟩ w (by omega)
  rw [show (⟨a.N.toArray⟩ : ByteArray).data.toList = a.N by simp] at HN
  have HO := fun w => rclock_any (-a.O) w (by omega)
  have hO : IntKind.i64.wrap (0 - a.O) = -a.O := by rw [IntWalk.i64_in _ (by omega)]; omega
  have hA : IntKind.i64.wrap (0 - a.A) = -a.A := by rw [IntWalk.i64_in _ (by omega)]; omega
  have hO3 : IntKind.i64.wrap (-a.O) = -a.O := IntWalk.i64_in _ (by omega)
  have hA3 : IntKind.i64.wrap (-a.A) = -a.A := IntWalk.i64_in _ (by omega)
  have hU : IntKind.i64.wrap (a.A - a.O) = a.A - a.O := IntWalk.i64_in _ (by omega)
  have k1 := ckL_len (t := -a.O) (by omega)
  obtain ⟨S1, hS1⟩ : ∃ S, S = (⟨(nmL a.N).toArray⟩ : ByteArray) := ⟨_, rfl⟩
  obtain ⟨z1, l1⟩ := ba_size hS1
  obtain ⟨S2, hS2⟩ : ∃ S, S = (⟨(ckL (-a.O)).toArray⟩ : ByteArray) := ⟨_, rfl⟩
  obtain ⟨z2, l2⟩ := ba_size hS2
  rw [← hS1] at HN
  rw [← hS2] at HO
  have u1 : (⟨#[44]⟩ : ByteArray).size = 1 := rfl
  obtain ⟨X1, A1, g1, j1⟩ := add_ba S1 S2 (by omega) (by omega)
  rcases hc with ⟨s0, a0, b0, e0⟩ | ⟨s0, hS, hB, hE⟩
  · have l0 : a.S.length = 0 := by rw [s0]; rfl
    have HF : Value.string X1 = .string ⟨(plL a).toArray⟩ := str_is (by rw [g1, l1, l2]; unfold plL; rw [if_pos s0])
    rw [← HF]
    exact dput17_f a S1 S2 S2 S2 S2 S2 X1 S2 S2 S2 S2 S2 S2 _ _ _ hO hO3 hA hA3 hU (eq_yes (by omega)) w (Lib.hid HN) (Lib.hid HO) A1
  · have l0 : 0 < a.S.length := List.length_pos_iff.2 s0
    have ts : ((a.S.length : Int) == 0) = false := eq_no (by omega)
    have n2 := nmL_len hS
    have r1 := rul_len hB
    have r2 := rul_len hE
    have HS := fun w => quoted_any ⟨a.S.toArray⟩ w (by omega)
    rw [show (⟨a.S.toArray⟩ : ByteArray).data.toList = a.S by simp] at HS
    have HB := fun w => rputd_any a.B w hB
    have HE := fun w => rputd_any a.E w hE
    obtain ⟨S3, hS3⟩ : ∃ S, S = (⟨(nmL a.S).toArray⟩ : ByteArray) := ⟨_, rfl⟩
    obtain ⟨z3, l3⟩ := ba_size hS3
    obtain ⟨S5, hS5⟩ : ∃ S, S = (⟨(ruL a.B).toArray⟩ : ByteArray) := ⟨_, rfl⟩
    obtain ⟨z5, l5⟩ := ba_size hS5
    obtain ⟨S6, hS6⟩ : ∃ S, S = (⟨(ruL a.E).toArray⟩ : ByteArray) := ⟨_, rfl⟩
    obtain ⟨z6, l6⟩ := ba_size hS6
    rw [← hS3] at HS
    rw [← hS5] at HB
    rw [← hS6] at HE
    obtain ⟨X2, A2, g2, j2⟩ := add_ba X1 S3 (by omega) (by omega)
    by_cases q : a.A = a.O + 3600
    · obtain ⟨X4, A4, g4, j4⟩ := add_ba X2 ⟨#[44]⟩ (by omega) (by omega)
      obtain ⟨X5, A5, g5, j5⟩ := add_ba X4 S5 (by omega) (by omega)
      obtain ⟨X6, A6, g6, j6⟩ := add_ba X5 ⟨#[44]⟩ (by omega) (by omega)
      obtain ⟨X7, A7, g7, j7⟩ := add_ba X6 S6 (by omega) (by omega)
      have HF : Value.string X7 = .string ⟨(plL a).toArray⟩ := str_is (by
        rw [g7, g6, g5, g4, g2, g1, l1, l2, l3, l5, l6]; unfold plL adL; rw [if_neg s0, if_pos q]
        show _ ++ _ ++ _ ++ [44] ++ _ ++ [44] ++ _ = _
        simp [List.append_assoc])
      rw [← HF]
      exact dput17_u a S1 S2 S3 S3 S5 S6 X1 X2 X2 X4 X5 X6 X7 _ _ _ hO hO3 hA hA3 hU (ne_no (by omega)) ts w (Lib.hid HN) (Lib.hid HO) A1 (Lib.hid HS) A2 A4 A5 A6 A7 (Lib.hid HB) (Lib.hid HE)
    · have HA := fun w => rclock_any (-a.A) w (by omega)
      have k2 := ckL_len (t := -a.A) (by omega)
      obtain ⟨S4, hS4⟩ : ∃ S, S = (⟨(ckL (-a.A)).toArray⟩ : ByteArray) := ⟨_, rfl⟩
      obtain ⟨z4, l4⟩ := ba_size hS4
      rw [← hS4] at HA
      obtain ⟨X3, A3, g3, j3⟩ := add_ba X2 S4 (by omega) (by omega)
      obtain ⟨X4, A4, g4, j4⟩ := add_ba X3 ⟨#[44]⟩ (by omega) (by omega)
      obtain ⟨X5, A5, g5, j5⟩ := add_ba X4 S5 (by omega) (by omega)
      obtain ⟨X6, A6, g6, j6⟩ := add_ba X5 ⟨#[44]⟩ (by omega) (by omega)
      obtain ⟨X7, A7, g7, j7⟩ := add_ba X6 S6 (by omega) (by omega)
      have HF : Value.string X7 = .string ⟨(plL a).toArray⟩ := str_is (by
        rw [g7, g6, g5, g4, g3, g2, g1, l1, l2, l3, l4, l5, l6]; unfold plL adL; rw [if_neg s0, if_neg q]
        show _ ++ _ ++ _ ++ _ ++ [44] ++ _ ++ [44] ++ _ = _
        simp [List.append_assoc])
      rw [← HF]
      exact dput17_t a S1 S2 S3 S4 S5 S6 X1 X2 X3 X4 X5 X6 X7 _ _ _ hO hO3 hA hA3 hU (ne_yes (by omega)) ts w (Lib.hid HN) (Lib.hid HO) A1 (Lib.hid HS) A2 (Lib.hid HA) A3 A4 A5 A6 A7 (Lib.hid HB) (Lib.hid HE)
set_option maxRecDepth 100000 in
set_option maxHeartbeats 8000000 in
theorem fixed17_y (s : ByteArray) (o E : Int) (e0 : E ≠ 0) (w : World)
    (HX : Hid (∀ w, Calls Tryz.prog 11 #[.agg (#[.string s, .string ⟨#[]⟩, .int .i64 o, .int .i64 0, .int .i64 0, .int .i64 0, .int .i64 0, .int .i64 0, .int .i64 0, .int .i64 0, .int .i64 0, .int .i64 0, .int .i64 0, .int .i64 0] : Array Value)] w fun x w' => x = .returned (ev 0) ∧ Below w.heap.size w w'))
    : Calls Tryz.prog 15 #[.string s, .int .i64 o] w fun x w' => x = .returned (.tuple #[.agg (#[.string s, .string ⟨#[]⟩, .int .i64 o, .int .i64 0, .int .i64 0, .int .i64 0, .int .i64 0, .int .i64 0, .int .i64 0, .int .i64 0, .int .i64 0, .int .i64 0, .int .i64 0, .int .i64 0] : Array Value), ev 0]) ∧ Below w.heap.size w w' := by
  have q0 := fun op t W x k => guard_ev op t W x k
  have q2 := fun W k => neq_ev W k
  have t1 := ne_yes e0
  clear e0
  obtain ⟨W0, hW0⟩ : ∃ W0, W0 = w.alloc (.cells (#[.string ⟨#[]⟩, .string ⟨#[]⟩, .int .i64 0, .int .i64 0, .int .i64 0, .int .i64 0, .int .i64 0, .int .i64 0, .int .i64 0, .int .i64 0, .int .i64 0, .int .i64 0, .int .i64 0, .int .i64 0] : Array Value) 25) := ⟨_, rfl⟩
  have b0 : Below w.heap.size w W0 := by rw [hW0]; exact bel16 w _
  have r0' : W0.heap[w.heap.size]? = some (.cells (#[.string ⟨#[]⟩, .string ⟨#[]⟩, .int .i64 0, .int .i64 0, .int .i64 0, .int .i64 0, .int .i64 0, .int .i64 0, .int .i64 0, .int .i64 0, .int .i64 0, .int .i64 0, .int .i64 0, .int .i64 0] : Array Value) 25 (0, 0)) := by rw [hW0]; exact heap_alloc_new w _
  have b1 := b0.alloc b0.size (.cells (#[.string s, .string ⟨#[]⟩, .int .i64 o, .int .i64 0, .int .i64 0, .int .i64 0, .int .i64 0, .int .i64 0, .int .i64 0, .int .i64 0, .int .i64 0, .int .i64 0, .int .i64 0, .int .i64 0] : Array Value) 25)
  have r1' := bel_keep (bel16 W0 (.cells (#[.string s, .string ⟨#[]⟩, .int .i64 o, .int .i64 0, .int .i64 0, .int .i64 0, .int .i64 0, .int .i64 0, .int .i64 0, .int .i64 0, .int .i64 0, .int .i64 0, .int .i64 0, .int .i64 0] : Array Value) 25)) r0'
  have n1 : (W0.alloc (.cells (#[.string s, .string ⟨#[]⟩, .int .i64 o, .int .i64 0, .int .i64 0, .int .i64 0, .int .i64 0, .int .i64 0, .int .i64 0, .int .i64 0, .int .i64 0, .int .i64 0, .int .i64 0, .int .i64 0] : Array Value) 25)).heap[W0.heap.size]? = some (.cells (#[.string s, .string ⟨#[]⟩, .int .i64 o, .int .i64 0, .int .i64 0, .int .i64 0, .int .i64 0, .int .i64 0, .int .i64 0, .int .i64 0, .int .i64 0, .int .i64 0, .int .i64 0, .int .i64 0] : Array Value) 25 (0, 0)) := heap_alloc_new W0 _
  obtain ⟨q, hq⟩ : ∃ q, q = W0.heap.size := ⟨_, rfl⟩
  obtain ⟨W1, hW1⟩ : ∃ W1, W1 = W0.alloc (.cells (#[.string s, .string ⟨#[]⟩, .int .i64 o, .int .i64 0, .int .i64 0, .int .i64 0, .int .i64 0, .int .i64 0, .int .i64 0, .int .i64 0, .int .i64 0, .int .i64 0, .int .i64 0, .int .i64 0] : Array Value) 25) := ⟨_, rfl⟩
  rw [← hW1] at b1 r1' n1
  rw [← hq] at n1
  have P : Hid (Pf w W1 q (#[.string s, .string ⟨#[]⟩, .int .i64 o, .int .i64 0, .int .i64 0, .int .i64 0, .int .i64 0, .int .i64 0, .int .i64 0, .int .i64 0, .int .i64 0, .int .i64 0, .int .i64 0, .int .i64 0] : Array Value)) := Lib.hid ⟨r1', n1, b1⟩
  clear b0 r0' b1 r1' n1
  obtain ⟨d0, d1, d2, d3, d4, d5, d6, d7, d8, d9, d10, d11, d12, d13⟩ := P.out.see
  obtain ⟨x0, x1, x2, x3, x4, x5, x6, x7, x8, x9, x10, x11, x12, x13, f0, f1, f2, f3, f4, f5, f6, f7, f8, f9, f10, f11, f12, f13⟩ := P.out.seep
  go_enter Tryz.func15, Tryz.ntmps15
  go_upto_region 1 with fail
  rw [← hW0]; clear hW0
  go_upto_region 2 with fail
  rw [← hq, ← hW1]; clear hq hW1
  go_wp2_with (go_at_call 11; refine (HX.out _).mono ?_; rintro x w6 ⟨rfl, hb⟩; have P := Lib.hid (P.out.keep hb); clear hb; obtain ⟨d0, d1, d2, d3, d4, d5, d6, d7, d8, d9, d10, d11, d12, d13⟩ := P.out.see; obtain ⟨x0, x1, x2, x3, x4, x5, x6, x7, x8, x9, x10, x11, x12, x13, f0, f1, f2, f3, f4, f5, f6, f7, f8, f9, f10, f11, f12, f13⟩ := P.out.seep)
  obtain ⟨F1, F2⟩ := P.out.done (.string s) (.string ⟨#[]⟩) (.int .i64 o) (.int .i64 0) (.int .i64 0) (.int .i64 0) (.int .i64 0) (.int .i64 0) (.int .i64 0) (.int .i64 0) (.int .i64 0) (.int .i64 0) (.int .i64 0) (.int .i64 0)
  show bodyPost _ _ _ _ _ (put17_14 w6 w.heap.size (.string s) (.string ⟨#[]⟩) (.int .i64 o) (.int .i64 0) (.int .i64 0) (.int .i64 0) (.int .i64 0) (.int .i64 0) (.int .i64 0) (.int .i64 0) (.int .i64 0) (.int .i64 0) (.int .i64 0) (.int .i64 0))
  generalize put17_14 w6 w.heap.size (.string s) (.string ⟨#[]⟩) (.int .i64 o) (.int .i64 0) (.int .i64 0) (.int .i64 0) (.int .i64 0) (.int .i64 0) (.int .i64 0) (.int .i64 0) (.int .i64 0) (.int .i64 0) (.int .i64 0) (.int .i64 0) = W99 at *
  obtain ⟨r0, r1, r2, r3, r4, r5, r6, r7, r8, r9, r10, r11, r12, r13⟩ := see_block F2
  refine bodyPost_ret (v := .tuple #[.agg (#[.string s, .string ⟨#[]⟩, .int .i64 o, .int .i64 0, .int .i64 0, .int .i64 0, .int .i64 0, .int .i64 0, .int .i64 0, .int .i64 0, .int .i64 0, .int .i64 0, .int .i64 0, .int .i64 0] : Array Value), ev 0]) (by simp [results, Tryz.results15, go_sem, r0, r1, r2, r3, r4, r5, r6, r7, r8, r9, r10, r11, r12, r13, ev]) rfl ⟨rfl, F1⟩
set_option maxRecDepth 100000 in
set_option maxHeartbeats 8000000 in
theorem fixed17_n (s : ByteArray) (o E : Int) (e0 : E ≠ 0) (w : World)
    (HX : Hid (∀ w, Calls Tryz.prog 11 #[.agg (#[.string s, .string ⟨#[]⟩, .int .i64 o, .int .i64 0, .int .i64 0, .int .i64 0, .int .i64 0, .int .i64 0, .int .i64 0, .int .i64 0, .int .i64 0, .int .i64 0, .int .i64 0, .int .i64 0] : Array Value)] w fun x w' => x = .returned (ev E) ∧ Below w.heap.size w w'))
    : Calls Tryz.prog 15 #[.string s, .int .i64 o] w fun x w' => x = .returned (.tuple #[.agg (#[.string ⟨#[]⟩, .string ⟨#[]⟩, .int .i64 0, .int .i64 0, .int .i64 0, .int .i64 0, .int .i64 0, .int .i64 0, .int .i64 0, .int .i64 0, .int .i64 0, .int .i64 0, .int .i64 0, .int .i64 0] : Array Value), ev E]) ∧ Below w.heap.size w w' := by
  have q0 := fun op t W x k => guard_ev op t W x k
  have q2 := fun W k => neq_ev W k
  have t1 := ne_yes e0
  clear e0
  obtain ⟨W0, hW0⟩ : ∃ W0, W0 = w.alloc (.cells (#[.string ⟨#[]⟩, .string ⟨#[]⟩, .int .i64 0, .int .i64 0, .int .i64 0, .int .i64 0, .int .i64 0, .int .i64 0, .int .i64 0, .int .i64 0, .int .i64 0, .int .i64 0, .int .i64 0, .int .i64 0] : Array Value) 25) := ⟨_, rfl⟩
  have b0 : Below w.heap.size w W0 := by rw [hW0]; exact bel16 w _
  have r0' : W0.heap[w.heap.size]? = some (.cells (#[.string ⟨#[]⟩, .string ⟨#[]⟩, .int .i64 0, .int .i64 0, .int .i64 0, .int .i64 0, .int .i64 0, .int .i64 0, .int .i64 0, .int .i64 0, .int .i64 0, .int .i64 0, .int .i64 0, .int .i64 0] : Array Value) 25 (0, 0)) := by rw [hW0]; exact heap_alloc_new w _
  have b1 := b0.alloc b0.size (.cells (#[.string s, .string ⟨#[]⟩, .int .i64 o, .int .i64 0, .int .i64 0, .int .i64 0, .int .i64 0, .int .i64 0, .int .i64 0, .int .i64 0, .int .i64 0, .int .i64 0, .int .i64 0, .int .i64 0] : Array Value) 25)
  have r1' := bel_keep (bel16 W0 (.cells (#[.string s, .string ⟨#[]⟩, .int .i64 o, .int .i64 0, .int .i64 0, .int .i64 0, .int .i64 0, .int .i64 0, .int .i64 0, .int .i64 0, .int .i64 0, .int .i64 0, .int .i64 0, .int .i64 0] : Array Value) 25)) r0'
  have n1 : (W0.alloc (.cells (#[.string s, .string ⟨#[]⟩, .int .i64 o, .int .i64 0, .int .i64 0, .int .i64 0, .int .i64 0, .int .i64 0, .int .i64 0, .int .i64 0, .int .i64 0, .int .i64 0, .int .i64 0, .int .i64 0] : Array Value) 25)).heap[W0.heap.size]? = some (.cells (#[.string s, .string ⟨#[]⟩, .int .i64 o, .int .i64 0, .int .i64 0, .int .i64 0, .int .i64 0, .int .i64 0, .int .i64 0, .int .i64 0, .int .i64 0, .int .i64 0, .int .i64 0, .int .i64 0] : Array Value) 25 (0, 0)) := heap_alloc_new W0 _
  obtain ⟨q, hq⟩ : ∃ q, q = W0.heap.size := ⟨_, rfl⟩
  obtain ⟨W1, hW1⟩ : ∃ W1, W1 = W0.alloc (.cells (#[.string s, .string ⟨#[]⟩, .int .i64 o, .int .i64 0, .int .i64 0, .int .i64 0, .int .i64 0, .int .i64 0, .int .i64 0, .int .i64 0, .int .i64 0, .int .i64 0, .int .i64 0, .int .i64 0] : Array Value) 25) := ⟨_, rfl⟩
  rw [← hW1] at b1 r1' n1
  rw [← hq] at n1
  have P : Hid (Pf w W1 q (#[.string s, .string ⟨#[]⟩, .int .i64 o, .int .i64 0, .int .i64 0, .int .i64 0, .int .i64 0, .int .i64 0, .int .i64 0, .int .i64 0, .int .i64 0, .int .i64 0, .int .i64 0, .int .i64 0] : Array Value)) := Lib.hid ⟨r1', n1, b1⟩
  clear b0 r0' b1 r1' n1
  obtain ⟨d0, d1, d2, d3, d4, d5, d6, d7, d8, d9, d10, d11, d12, d13⟩ := P.out.see
  obtain ⟨x0, x1, x2, x3, x4, x5, x6, x7, x8, x9, x10, x11, x12, x13, f0, f1, f2, f3, f4, f5, f6, f7, f8, f9, f10, f11, f12, f13⟩ := P.out.seep
  go_enter Tryz.func15, Tryz.ntmps15
  go_upto_region 1 with fail
  rw [← hW0]; clear hW0
  go_upto_region 2 with fail
  rw [← hq, ← hW1]; clear hq hW1
  go_wp2_with (go_at_call 11; refine (HX.out _).mono ?_; rintro x w6 ⟨rfl, hb⟩; have P := Lib.hid (P.out.keep hb); clear hb; obtain ⟨d0, d1, d2, d3, d4, d5, d6, d7, d8, d9, d10, d11, d12, d13⟩ := P.out.see; obtain ⟨x0, x1, x2, x3, x4, x5, x6, x7, x8, x9, x10, x11, x12, x13, f0, f1, f2, f3, f4, f5, f6, f7, f8, f9, f10, f11, f12, f13⟩ := P.out.seep)
  obtain ⟨F1, F2⟩ := P.out.done (.string ⟨#[]⟩) (.string ⟨#[]⟩) (.int .i64 0) (.int .i64 0) (.int .i64 0) (.int .i64 0) (.int .i64 0) (.int .i64 0) (.int .i64 0) (.int .i64 0) (.int .i64 0) (.int .i64 0) (.int .i64 0) (.int .i64 0)
  show bodyPost _ _ _ _ _ (put17_14 w6 w.heap.size (.string ⟨#[]⟩) (.string ⟨#[]⟩) (.int .i64 0) (.int .i64 0) (.int .i64 0) (.int .i64 0) (.int .i64 0) (.int .i64 0) (.int .i64 0) (.int .i64 0) (.int .i64 0) (.int .i64 0) (.int .i64 0) (.int .i64 0))
  generalize put17_14 w6 w.heap.size (.string ⟨#[]⟩) (.string ⟨#[]⟩) (.int .i64 0) (.int .i64 0) (.int .i64 0) (.int .i64 0) (.int .i64 0) (.int .i64 0) (.int .i64 0) (.int .i64 0) (.int .i64 0) (.int .i64 0) (.int .i64 0) (.int .i64 0) = W99 at *
  obtain ⟨r0, r1, r2, r3, r4, r5, r6, r7, r8, r9, r10, r11, r12, r13⟩ := see_block F2
  refine bodyPost_ret (v := .tuple #[.agg (#[.string ⟨#[]⟩, .string ⟨#[]⟩, .int .i64 0, .int .i64 0, .int .i64 0, .int .i64 0, .int .i64 0, .int .i64 0, .int .i64 0, .int .i64 0, .int .i64 0, .int .i64 0, .int .i64 0, .int .i64 0] : Array Value), ev E]) (by simp [results, Tryz.results15, go_sem, r0, r1, r2, r3, r4, r5, r6, r7, r8, r9, r10, r11, r12, r13, ev]) rfl ⟨rfl, F1⟩
/-- A plan without another time. -/
def fxP (n : List UInt8) (o : Int) : Pl := ⟨n, [], o, 0, ru0, ru0⟩
theorem fixed17_any (s : ByteArray) (o : Int) (w : World) (hs : s.size ≤ 100000) :
    Calls Tryz.prog 15 #[.string s, .int .i64 o] w fun x w' => x = .returned (.tuple #[.agg (if plE (fxP s.data.toList o) = 0 then fxP s.data.toList o else pl0).cells, ev (plE (fxP s.data.toList o))]) ∧ Below w.heap.size w w' := by
  have hsz : s.data.toList.length = s.size := by simp
  have HX := fun w => plcheck_any (fxP s.data.toList o) w (by show s.data.toList.length ≤ _; omega) (Nat.zero_le _)
  by_cases h : plE (fxP s.data.toList o) = 0
  · rw [if_pos h, h]
    rw [h] at HX
    exact fixed17_y s o 1 (by decide) w (Lib.hid HX)
  · rw [if_neg h]
    exact fixed17_n s o _ h w (Lib.hid HX)
end Go.Proofs.YtkhcneacjnpcnaaGreatDoor
