/- Merged: PosC. -/
import Derived.Test.YtkhcneacjnpcnaaGreatDoorGPosixChecks27
import Derived.Test.YtkhcneacjnpcnaaGreatDoorGPosixChecks32
namespace Go.Proofs.YtkhcneacjnpcnaaGreatDoor
open Go.RowKit
set_option linter.unusedVariables false
set_option linter.unusedSimpArgs false

theorem rul_len {r : Ru} (h : ruE r = 0) : (ruL r).length ≤ 50 := by
  have a := dyL_len h
  have tm := (ruE_zero h).2.2
  unfold tmP at tm
  have b := ckL_len (t := r.T) (by omega)
  unfold ruL; split
  · omega
  · simp only [List.length_append, List.length_singleton]; omega
theorem nametext_any (n : List UInt8) (w : World) (hn : n.length ≤ 100) :
    Calls Tryz.prog 19 #[.string ⟨n.toArray⟩] w fun x w' => x = .returned (.string ⟨(nmL n).toArray⟩) ∧ Below w.heap.size w w' := by
  have HO : Hid (∀ w, Calls Tryz.prog 29 #[.string ⟨n.toArray⟩, .string ⟨#[65, 66, 67, 68, 69, 70, 71, 72, 73, 74, 75, 76, 77, 78, 79, 80, 81, 82, 83, 84, 85, 86, 87, 88, 89, 90, 97, 98, 99, 100, 101, 102, 103, 104, 105, 106, 107, 108, 109, 110, 111, 112, 113, 114, 115, 116, 117, 118, 119, 120, 121, 122]⟩] w fun x w' => x = .returned (.bool (n.all ltB)) ∧ w = w') := Lib.hid (fun w => by
    have := only_any ⟨n.toArray⟩ letW w (by rw [Lib.size_mk]; omega)
    rw [in_let', show (⟨n.toArray⟩ : ByteArray).data.toList = n by simp] at this
    exact this)
  unfold nmL
  cases c : n.all ltB with
  | true =>
    rw [if_pos rfl]
    rw [c] at HO; clear c
    generalize (⟨n.toArray⟩ : ByteArray) = S at *
    go_enter Tryz.func19, Tryz.ntmps19
    go_wp2_with (go_at_call 29; refine (HO.out _).mono ?_; rintro x w' ⟨rfl, rfl⟩)
    go_ret
    exact ⟨rfl, Below.refl _ _⟩
  | false =>
    rw [if_neg (by decide)]
    rw [c] at HO; clear c
    obtain ⟨S, hS⟩ : ∃ S, S = (⟨n.toArray⟩ : ByteArray) := ⟨_, rfl⟩
    obtain ⟨z1, l1⟩ := ba_size hS
    rw [← hS] at HO ⊢
    have u1 : (⟨#[60]⟩ : ByteArray).size = 1 := rfl
    have u2 : (⟨#[62]⟩ : ByteArray).size = 1 := rfl
    obtain ⟨X1, A1, g1, j1⟩ := add_ba ⟨#[60]⟩ S (by rw [u1]; decide) (by omega)
    obtain ⟨X2, A2, g2, j2⟩ := add_ba X1 ⟨#[62]⟩ (by omega) (by rw [u2]; decide)
    have HF : Hid (Value.string X2 = .string ⟨(60 :: (n ++ [62])).toArray⟩) := Lib.hid (str_is (by rw [g2, g1, l1]; rfl))
    clear hS z1 l1 u1 u2 g1 g2 j1 j2
    go_enter Tryz.func19, Tryz.ntmps19
    go_wp2_with (go_at_call 29; refine (HO.out _).mono ?_; rintro x w' ⟨rfl, rfl⟩)
    go_ret
    exact ⟨ret1_eq HF.out, Below.refl _ _⟩
theorem offtext_any (o : Int) (w : World) (hT : Tab w) (ho : -89999 ≤ o ∧ o ≤ 89999) :
    Calls Tryz.prog 20 #[.int .i64 o] w fun x w' => x = .returned (.string ⟨(ckL (-o)).toArray⟩) ∧ Below w.heap.size w w' := by
  have hk : pkP (-o) 24 := ⟨by decide, by omega, by omega⟩
  have HP := putclock_any (-o) 24 w hT (by unfold fits; omega)
  rw [show pkL (-o) 24 = ckL (-o) from if_pos hk, show pkE (-o) 24 = 0 from if_pos hk] at HP
  have HP := Lib.hid HP
  have hn : IntKind.i64.wrap (-o) = -o := IntWalk.i64_in _ (by omega)
  generalize (⟨(ckL (-o)).toArray⟩ : ByteArray) = S at *
  clear hk hT ho
  go_enter Tryz.func20, Tryz.ntmps20
  go_wp2_with (go_at_call 35; refine HP.out.mono ?_; rintro x w1 ⟨rfl, hb⟩; have B := Lib.hid hb; clear hb)
  go_ret
  exact ⟨rfl, B.out⟩
theorem ruletext_any (r : Ru) (w : World) (hT : Tab w) (hr : ruE r = 0) :
    Calls Tryz.prog 22 #[.agg r.cells] w fun x w' => x = .returned (.string ⟨(ruL r).toArray⟩) ∧ Below w.heap.size w w' := by
  obtain ⟨W0, hW0⟩ : ∃ W0, W0 = w.alloc (.cells r.cells 23) := ⟨_, rfl⟩
  have B0 : Hid (Below w.heap.size w W0) := Lib.hid (by rw [hW0]; exact bel16 w _)
  have L0 : Rk W0 w.heap.size r := by rw [hW0]; exact rk_new _ _
  obtain ⟨c0, c1, c2, c3, c4⟩ := L0.all
  have HP := rput16_any r W0 (hT.below B0.out)
  rw [show rtL r = ruL r from if_pos hr, hr] at HP
  have HP : Hid (Calls Tryz.prog 36 #[.agg #[.int .i64 r.K, .int .i64 r.M, .int .i64 r.W, .int .i64 r.D, .int .i64 r.T]] W0 fun e w' => e = .returned (.tuple #[.string ⟨(ruL r).toArray⟩, ev 0]) ∧ Below W0.heap.size W0 w') := Lib.hid HP
  generalize (⟨(ruL r).toArray⟩ : ByteArray) = S at *
  clear L0 hT hr
  go_enter Tryz.func22, Tryz.ntmps22
  go_upto_region 1 with fail
  rw [← hW0]; clear hW0
  go_wp2_with (go_at_call 36; refine HP.out.mono ?_; rintro x w1 ⟨rfl, hb⟩; have B := Lib.hid (B0.out.trans (hb.mono B0.out.size)); clear hb)
  go_ret
  exact ⟨rfl, B.out⟩

/-- What Put answers. -/
def ptP (a : Pl) : List UInt8 := if plE a = 0 then plL a else []
theorem plk_x {W0 : World} {p : Nat} {a : Pl} (h : Plk W0 p a) : ∀ W, Kq16 W0 W → (W.cell? ⟨p, 0, none⟩ = some (.string ⟨a.N.toArray⟩) ∧ W.cell? ⟨p, 2, none⟩ = some (.int .i64 a.O)) ∧ Kq16 W0 W := fun W k => by
  obtain ⟨c0, c1, c2, c3, c4, c5, c6, c7, c8, c9, c10, c11, c12, c13⟩ := (h.keep k.bel).all
  exact ⟨⟨c0, c2⟩, k⟩
theorem plk_y {W0 : World} {p : Nat} {a : Pl} (h : Plk W0 p a) : ∀ W, Kq16 W0 W → (W.cell? ⟨p, 2, none⟩ = some (.int .i64 a.O) ∧ W.cell? ⟨p, 3, none⟩ = some (.int .i64 a.A)) ∧ Kq16 W0 W := fun W k => by
  obtain ⟨c0, c1, c2, c3, c4, c5, c6, c7, c8, c9, c10, c11, c12, c13⟩ := (h.keep k.bel).all
  exact ⟨⟨c2, c3⟩, k⟩
theorem plk_z {W0 : World} {p : Nat} {a : Pl} (h : Plk W0 p a) : ∀ W, Kq16 W0 W → (W.cell? ⟨p, 4, none⟩ = some (.int .i64 a.B.K) ∧ W.cell? ⟨p, 5, none⟩ = some (.int .i64 a.B.M) ∧ W.cell? ⟨p, 6, none⟩ = some (.int .i64 a.B.W) ∧ W.cell? ⟨p, 7, none⟩ = some (.int .i64 a.B.D) ∧ W.cell? ⟨p, 8, none⟩ = some (.int .i64 a.B.T) ∧ W.cell? ⟨p, 9, none⟩ = some (.int .i64 a.E.K) ∧ W.cell? ⟨p, 10, none⟩ = some (.int .i64 a.E.M) ∧ W.cell? ⟨p, 11, none⟩ = some (.int .i64 a.E.W) ∧ W.cell? ⟨p, 12, none⟩ = some (.int .i64 a.E.D) ∧ W.cell? ⟨p, 13, none⟩ = some (.int .i64 a.E.T)) ∧ Kq16 W0 W := fun W k => by
  obtain ⟨c0, c1, c2, c3, c4, c5, c6, c7, c8, c9, c10, c11, c12, c13⟩ := (h.keep k.bel).all
  exact ⟨⟨c4, c5, c6, c7, c8, c9, c10, c11, c12, c13⟩, k⟩
set_option maxRecDepth 100000 in
set_option maxHeartbeats 8000000 in
theorem put17_bad (a : Pl) (E : Int) (e0 : E ≠ 0) (w : World) (hT : Tab w)
    (HX : Hid (∀ w, Calls Tryz.prog 11 #[.agg #[.string ⟨a.N.toArray⟩, .string ⟨a.S.toArray⟩, .int .i64 a.O, .int .i64 a.A, .int .i64 a.B.K, .int .i64 a.B.M, .int .i64 a.B.W, .int .i64 a.B.D, .int .i64 a.B.T, .int .i64 a.E.K, .int .i64 a.E.M, .int .i64 a.E.W, .int .i64 a.E.D, .int .i64 a.E.T]] w fun x w' => x = .returned (ev E) ∧ Below w.heap.size w w'))
    : Calls Tryz.prog 8 #[.agg a.cells] w fun x w' => x = .returned (.tuple #[.string ⟨#[]⟩, ev E]) ∧ Below w.heap.size w w' := by
  have t1 := ne_yes e0
  clear e0
  have q0 := fun op t W x k => guard_ev op t W x k
  have q2 := fun W k => neq_ev W k
  obtain ⟨W0, hW0⟩ : ∃ W0, W0 = w.alloc (.cells a.cells 25) := ⟨_, rfl⟩
  have B0 : Hid (Below w.heap.size w W0) := Lib.hid (by rw [hW0]; exact bel16 w _)
  have L0 : Plk W0 w.heap.size a := by rw [hW0]; exact plk_new _ _
  obtain ⟨c0, c1, c2, c3, c4, c5, c6, c7, c8, c9, c10, c11, c12, c13⟩ := L0.all
  have R0 := Lib.hid L0
  have T0 := Lib.hid (hT.below B0.out)
  clear L0 hT
  go_enter Tryz.func8, Tryz.ntmps8
  go_upto_region 1 with fail
  rw [← hW0]; clear hW0
  go_wp2_with (go_at_call 11; with_reducible refine (HX.out _).mono ?_; rintro x w1 ⟨rfl, hb⟩; obtain ⟨c0, c1, c2, c3, c4, c5, c6, c7, c8, c9, c10, c11, c12, c13⟩ := (R0.out.keep hb).all; have R0 := Lib.hid (R0.out.keep hb); have T0 := Lib.hid (T0.out.below hb); have B0 := Lib.hid (B0.out.trans (hb.mono B0.out.size)); clear hb)
  go_ret2
  exact ⟨rfl, B0.out⟩
set_option maxRecDepth 100000 in
set_option maxHeartbeats 8000000 in
theorem put17_f (a : Pl) (S1 S2 S3 S4 S5 S6 X1 X2 X3 X4 X5 X6 X7 : ByteArray) (u : Int) (tu : (a.A != u) = false) (w : World) (hT : Tab w)
    (HX : Hid (∀ w, Calls Tryz.prog 11 #[.agg #[.string ⟨a.N.toArray⟩, .string ⟨a.S.toArray⟩, .int .i64 a.O, .int .i64 a.A, .int .i64 a.B.K, .int .i64 a.B.M, .int .i64 a.B.W, .int .i64 a.B.D, .int .i64 a.B.T, .int .i64 a.E.K, .int .i64 a.E.M, .int .i64 a.E.W, .int .i64 a.E.D, .int .i64 a.E.T]] w fun x w' => x = .returned (ev 0) ∧ Below w.heap.size w w'))
    (HN : Hid (∀ w, Calls Tryz.prog 19 #[.string ⟨a.N.toArray⟩] w fun x w' => x = .returned (.string S1) ∧ Below w.heap.size w w'))
    (HO : Hid (∀ w, Tab w → Calls Tryz.prog 20 #[.int .i64 a.O] w fun x w' => x = .returned (.string S2) ∧ Below w.heap.size w w'))
    (A1 : ∀ W, (Op.stringOp .add S1 S2).run Tryz.prog W = .ok (.string X1) W)
    (HC : Hid (∀ w, Calls Tryz.prog 12 #[.agg #[.string ⟨a.N.toArray⟩, .string ⟨a.S.toArray⟩, .int .i64 a.O, .int .i64 a.A, .int .i64 a.B.K, .int .i64 a.B.M, .int .i64 a.B.W, .int .i64 a.B.D, .int .i64 a.B.T, .int .i64 a.E.K, .int .i64 a.E.M, .int .i64 a.E.W, .int .i64 a.E.D, .int .i64 a.E.T]] w fun x w' => x = .returned (.bool false) ∧ Below w.heap.size w w'))
    : Calls Tryz.prog 8 #[.agg a.cells] w fun x w' => x = .returned (.tuple #[.string X1, ev 0]) ∧ Below w.heap.size w w' := by
  have q0 := fun op t W x k => guard_ev op t W x k
  have q2 := fun W k => neq_ev W k
  obtain ⟨W0, hW0⟩ : ∃ W0, W0 = w.alloc (.cells a.cells 25) := ⟨_, rfl⟩
  have B0 : Hid (Below w.heap.size w W0) := Lib.hid (by rw [hW0]; exact bel16 w _)
  have L0 : Plk W0 w.heap.size a := by rw [hW0]; exact plk_new _ _
  obtain ⟨c0, c1, c2, c3, c4, c5, c6, c7, c8, c9, c10, c11, c12, c13⟩ := L0.all
  have R0 := Lib.hid L0
  have T0 := Lib.hid (hT.below B0.out)
  clear L0 hT
  go_enter Tryz.func8, Tryz.ntmps8
  go_upto_region 1 with fail
  rw [← hW0]; clear hW0
  go_upto_region 4 with (go_at_call 11; with_reducible refine (HX.out _).mono ?_; rintro x w1 ⟨rfl, hb⟩; obtain ⟨c0, c1, c2, c3, c4, c5, c6, c7, c8, c9, c10, c11, c12, c13⟩ := (R0.out.keep hb).all; have R0 := Lib.hid (R0.out.keep hb); have T0 := Lib.hid (T0.out.below hb); have B0 := Lib.hid (B0.out.trans (hb.mono B0.out.size)); clear hb)
  have E1 : Hid (∀ w, Kq16 w1 w → Calls Tryz.prog 19 #[.string ⟨a.N.toArray⟩] w fun x w' => x = .returned (.string S1) ∧ Below w.heap.size w w') := Lib.hid (fun w (k : Kq16 w1 w) => HN.out w)
  have E2 : Hid (∀ w, Kq16 w1 w → Calls Tryz.prog 20 #[.int .i64 a.O] w fun x w' => x = .returned (.string S2) ∧ Below w.heap.size w w') := Lib.hid (fun w (k : Kq16 w1 w) => HO.out w (T0.out.below k.bel))
  have HH := Lib.hid (plk_x R0.out)
  have hKD : Kq16 w1 w1.drew := ⟨(Below.refl _ w1).drew⟩
  go_region_held3 (fun W => (W.cell? ⟨w.heap.size, 0, none⟩ = some (.string ⟨a.N.toArray⟩) ∧ W.cell? ⟨w.heap.size, 2, none⟩ = some (.int .i64 a.O)) ∧ Kq16 w1 W)
    (exact HH.out _ (by assumption))
    (first
      | (go_at_call 19; go_split_ands; (with_reducible refine (E1.out _ (by assumption)).mono ?_); rintro er wra ⟨rfl, hq⟩; have hkr : Kq16 w1 wra := Kq16.step (by assumption) hq; clear hq)
      | (go_at_call 20; go_split_ands; (with_reducible refine (E2.out _ (by assumption)).mono ?_); rintro er wra ⟨rfl, hq⟩; have hkr : Kq16 w1 wra := Kq16.step (by assumption) hq; clear hq))
  have Q1 : Hid (Below w1.heap.size w1 _) := Lib.hid (Kq16.bel (W0 := w1) (by assumption))
  obtain ⟨c0, c1, c2, c3, c4, c5, c6, c7, c8, c9, c10, c11, c12, c13⟩ := (R0.out.keep Q1.out).all
  replace R0 := Lib.hid (R0.out.keep Q1.out)
  replace T0 := Lib.hid (T0.out.below Q1.out)
  replace B0 := Lib.hid (B0.out.trans (Q1.out.mono B0.out.size))
  go_wp2_with (go_at_call 12; with_reducible refine (HC.out _).mono ?_; rintro x w2 ⟨rfl, hb⟩; obtain ⟨c0, c1, c2, c3, c4, c5, c6, c7, c8, c9, c10, c11, c12, c13⟩ := (R0.out.keep hb).all; have R0 := Lib.hid (R0.out.keep hb); have T0 := Lib.hid (T0.out.below hb); have B0 := Lib.hid (B0.out.trans (hb.mono B0.out.size)); clear hb)
  go_ret2
  exact ⟨rfl, B0.out⟩
set_option maxRecDepth 100000 in
set_option maxHeartbeats 8000000 in
theorem put17_u (a : Pl) (S1 S2 S3 S4 S5 S6 X1 X2 X3 X4 X5 X6 X7 : ByteArray) (u : Int) (tu : (a.A != u) = false) (w : World) (hT : Tab w)
    (HX : Hid (∀ w, Calls Tryz.prog 11 #[.agg #[.string ⟨a.N.toArray⟩, .string ⟨a.S.toArray⟩, .int .i64 a.O, .int .i64 a.A, .int .i64 a.B.K, .int .i64 a.B.M, .int .i64 a.B.W, .int .i64 a.B.D, .int .i64 a.B.T, .int .i64 a.E.K, .int .i64 a.E.M, .int .i64 a.E.W, .int .i64 a.E.D, .int .i64 a.E.T]] w fun x w' => x = .returned (ev 0) ∧ Below w.heap.size w w'))
    (HN : Hid (∀ w, Calls Tryz.prog 19 #[.string ⟨a.N.toArray⟩] w fun x w' => x = .returned (.string S1) ∧ Below w.heap.size w w'))
    (HO : Hid (∀ w, Tab w → Calls Tryz.prog 20 #[.int .i64 a.O] w fun x w' => x = .returned (.string S2) ∧ Below w.heap.size w w'))
    (A1 : ∀ W, (Op.stringOp .add S1 S2).run Tryz.prog W = .ok (.string X1) W)
    (HC : Hid (∀ w, Calls Tryz.prog 12 #[.agg #[.string ⟨a.N.toArray⟩, .string ⟨a.S.toArray⟩, .int .i64 a.O, .int .i64 a.A, .int .i64 a.B.K, .int .i64 a.B.M, .int .i64 a.B.W, .int .i64 a.B.D, .int .i64 a.B.T, .int .i64 a.E.K, .int .i64 a.E.M, .int .i64 a.E.W, .int .i64 a.E.D, .int .i64 a.E.T]] w fun x w' => x = .returned (.bool true) ∧ Below w.heap.size w w'))
    (HS : Hid (∀ w, Calls Tryz.prog 19 #[.string ⟨a.S.toArray⟩] w fun x w' => x = .returned (.string S3) ∧ Below w.heap.size w w'))
    (A2 : ∀ W, (Op.stringOp .add X1 S3).run Tryz.prog W = .ok (.string X2) W)
    (HU : Hid (∀ w, Calls Tryz.prog 21 #[.int .i64 a.O] w fun x w' => x = .returned (.int .i64 u) ∧ Below w.heap.size w w'))
    (A4 : ∀ W, (Op.stringOp .add X2 ⟨#[44]⟩).run Tryz.prog W = .ok (.string X4) W)
    (A5 : ∀ W, (Op.stringOp .add X4 S5).run Tryz.prog W = .ok (.string X5) W)
    (A6 : ∀ W, (Op.stringOp .add X5 ⟨#[44]⟩).run Tryz.prog W = .ok (.string X6) W)
    (A7 : ∀ W, (Op.stringOp .add X6 S6).run Tryz.prog W = .ok (.string X7) W)
    (HB : Hid (∀ w, Tab w → Calls Tryz.prog 22 #[.agg #[.int .i64 a.B.K, .int .i64 a.B.M, .int .i64 a.B.W, .int .i64 a.B.D, .int .i64 a.B.T]] w fun x w' => x = .returned (.string S5) ∧ Below w.heap.size w w'))
    (HE : Hid (∀ w, Tab w → Calls Tryz.prog 22 #[.agg #[.int .i64 a.E.K, .int .i64 a.E.M, .int .i64 a.E.W, .int .i64 a.E.D, .int .i64 a.E.T]] w fun x w' => x = .returned (.string S6) ∧ Below w.heap.size w w'))
    : Calls Tryz.prog 8 #[.agg a.cells] w fun x w' => x = .returned (.tuple #[.string X7, ev 0]) ∧ Below w.heap.size w w' := by
  have q0 := fun op t W x k => guard_ev op t W x k
  have q2 := fun W k => neq_ev W k
  obtain ⟨W0, hW0⟩ : ∃ W0, W0 = w.alloc (.cells a.cells 25) := ⟨_, rfl⟩
  have B0 : Hid (Below w.heap.size w W0) := Lib.hid (by rw [hW0]; exact bel16 w _)
  have L0 : Plk W0 w.heap.size a := by rw [hW0]; exact plk_new _ _
  obtain ⟨c0, c1, c2, c3, c4, c5, c6, c7, c8, c9, c10, c11, c12, c13⟩ := L0.all
  have R0 := Lib.hid L0
  have T0 := Lib.hid (hT.below B0.out)
  clear L0 hT
  go_enter Tryz.func8, Tryz.ntmps8
  go_upto_region 1 with fail
  rw [← hW0]; clear hW0
  go_upto_region 4 with (go_at_call 11; with_reducible refine (HX.out _).mono ?_; rintro x w1 ⟨rfl, hb⟩; obtain ⟨c0, c1, c2, c3, c4, c5, c6, c7, c8, c9, c10, c11, c12, c13⟩ := (R0.out.keep hb).all; have R0 := Lib.hid (R0.out.keep hb); have T0 := Lib.hid (T0.out.below hb); have B0 := Lib.hid (B0.out.trans (hb.mono B0.out.size)); clear hb)
  have E1 : Hid (∀ w, Kq16 w1 w → Calls Tryz.prog 19 #[.string ⟨a.N.toArray⟩] w fun x w' => x = .returned (.string S1) ∧ Below w.heap.size w w') := Lib.hid (fun w (k : Kq16 w1 w) => HN.out w)
  have E2 : Hid (∀ w, Kq16 w1 w → Calls Tryz.prog 20 #[.int .i64 a.O] w fun x w' => x = .returned (.string S2) ∧ Below w.heap.size w w') := Lib.hid (fun w (k : Kq16 w1 w) => HO.out w (T0.out.below k.bel))
  have HH := Lib.hid (plk_x R0.out)
  have hKD : Kq16 w1 w1.drew := ⟨(Below.refl _ w1).drew⟩
  go_region_held3 (fun W => (W.cell? ⟨w.heap.size, 0, none⟩ = some (.string ⟨a.N.toArray⟩) ∧ W.cell? ⟨w.heap.size, 2, none⟩ = some (.int .i64 a.O)) ∧ Kq16 w1 W)
    (exact HH.out _ (by assumption))
    (first
      | (go_at_call 19; go_split_ands; (with_reducible refine (E1.out _ (by assumption)).mono ?_); rintro er wra ⟨rfl, hq⟩; have hkr : Kq16 w1 wra := Kq16.step (by assumption) hq; clear hq)
      | (go_at_call 20; go_split_ands; (with_reducible refine (E2.out _ (by assumption)).mono ?_); rintro er wra ⟨rfl, hq⟩; have hkr : Kq16 w1 wra := Kq16.step (by assumption) hq; clear hq))
  have Q1 : Hid (Below w1.heap.size w1 _) := Lib.hid (Kq16.bel (W0 := w1) (by assumption))
  obtain ⟨c0, c1, c2, c3, c4, c5, c6, c7, c8, c9, c10, c11, c12, c13⟩ := (R0.out.keep Q1.out).all
  replace R0 := Lib.hid (R0.out.keep Q1.out)
  replace T0 := Lib.hid (T0.out.below Q1.out)
  replace B0 := Lib.hid (B0.out.trans (Q1.out.mono B0.out.size))
  go_upto_region 8 with (first
    | (go_at_call 12; with_reducible refine (HC.out _).mono ?_; rintro x w2 ⟨rfl, hb⟩; obtain ⟨c0, c1, c2, c3, c4, c5, c6, c7, c8, c9, c10, c11, c12, c13⟩ := (R0.out.keep hb).all; have R0 := Lib.hid (R0.out.keep hb); have T0 := Lib.hid (T0.out.below hb); have B0 := Lib.hid (B0.out.trans (hb.mono B0.out.size)); clear hb)
    | (go_at_call 19; with_reducible refine (HS.out _).mono ?_; rintro x w3 ⟨rfl, hb⟩; obtain ⟨c0, c1, c2, c3, c4, c5, c6, c7, c8, c9, c10, c11, c12, c13⟩ := (R0.out.keep hb).all; have R0 := Lib.hid (R0.out.keep hb); have T0 := Lib.hid (T0.out.below hb); have B0 := Lib.hid (B0.out.trans (hb.mono B0.out.size)); clear hb))
  have E3 : Hid (∀ w, Kq16 w3 w → Calls Tryz.prog 21 #[.int .i64 a.O] w fun x w' => x = .returned (.int .i64 u) ∧ Below w.heap.size w w') := Lib.hid (fun w (k : Kq16 w3 w) => HU.out w)
  have HH := Lib.hid (plk_y R0.out)
  have hKD : Kq16 w3 w3.drew := ⟨(Below.refl _ w3).drew⟩
  go_region_held3 (fun W => (W.cell? ⟨w.heap.size, 2, none⟩ = some (.int .i64 a.O) ∧ W.cell? ⟨w.heap.size, 3, none⟩ = some (.int .i64 a.A)) ∧ Kq16 w3 W)
    (exact HH.out _ (by assumption))
    (first
      | (go_at_call 21; go_split_ands; (with_reducible refine (E3.out _ (by assumption)).mono ?_); rintro er wrb ⟨rfl, hq⟩; have hkr : Kq16 w3 wrb := Kq16.step (by assumption) hq; clear hq))
  have Q1 : Hid (Below w3.heap.size w3 _) := Lib.hid (Kq16.bel (W0 := w3) (by assumption))
  obtain ⟨c0, c1, c2, c3, c4, c5, c6, c7, c8, c9, c10, c11, c12, c13⟩ := (R0.out.keep Q1.out).all
  replace R0 := Lib.hid (R0.out.keep Q1.out)
  replace T0 := Lib.hid (T0.out.below Q1.out)
  replace B0 := Lib.hid (B0.out.trans (Q1.out.mono B0.out.size))
  go_upto_region 10 with fail
  have E4 : Hid (∀ w, Kq16 wrb w → Calls Tryz.prog 22 #[.agg #[.int .i64 a.B.K, .int .i64 a.B.M, .int .i64 a.B.W, .int .i64 a.B.D, .int .i64 a.B.T]] w fun x w' => x = .returned (.string S5) ∧ Below w.heap.size w w') := Lib.hid (fun w (k : Kq16 wrb w) => HB.out w (T0.out.below k.bel))
  have E5 : Hid (∀ w, Kq16 wrb w → Calls Tryz.prog 22 #[.agg #[.int .i64 a.E.K, .int .i64 a.E.M, .int .i64 a.E.W, .int .i64 a.E.D, .int .i64 a.E.T]] w fun x w' => x = .returned (.string S6) ∧ Below w.heap.size w w') := Lib.hid (fun w (k : Kq16 wrb w) => HE.out w (T0.out.below k.bel))
  have HH := Lib.hid (plk_z R0.out)
  have hKD : Kq16 wrb wrb.drew := ⟨(Below.refl _ wrb).drew⟩
  go_region_held3 (fun W => (W.cell? ⟨w.heap.size, 4, none⟩ = some (.int .i64 a.B.K) ∧ W.cell? ⟨w.heap.size, 5, none⟩ = some (.int .i64 a.B.M) ∧ W.cell? ⟨w.heap.size, 6, none⟩ = some (.int .i64 a.B.W) ∧ W.cell? ⟨w.heap.size, 7, none⟩ = some (.int .i64 a.B.D) ∧ W.cell? ⟨w.heap.size, 8, none⟩ = some (.int .i64 a.B.T) ∧ W.cell? ⟨w.heap.size, 9, none⟩ = some (.int .i64 a.E.K) ∧ W.cell? ⟨w.heap.size, 10, none⟩ = some (.int .i64 a.E.M) ∧ W.cell? ⟨w.heap.size, 11, none⟩ = some (.int .i64 a.E.W) ∧ W.cell? ⟨w.heap.size, 12, none⟩ = some (.int .i64 a.E.D) ∧ W.cell? ⟨w.heap.size, 13, none⟩ = some (.int .i64 a.E.T)) ∧ Kq16 wrb W)
    (exact HH.out _ (by assumption))
    (first
      | (go_at_call 22; go_split_ands; (with_reducible refine (E4.out _ (by assumption)).mono ?_); rintro er wrc ⟨rfl, hq⟩; have hkr : Kq16 wrb wrc := Kq16.step (by assumption) hq; clear hq)
      | (go_at_call 22; go_split_ands; (with_reducible refine (E5.out _ (by assumption)).mono ?_); rintro er wrc ⟨rfl, hq⟩; have hkr : Kq16 wrb wrc := Kq16.step (by assumption) hq; clear hq))
  have Q1 : Hid (Below wrb.heap.size wrb _) := Lib.hid (Kq16.bel (W0 := wrb) (by assumption))
  obtain ⟨c0, c1, c2, c3, c4, c5, c6, c7, c8, c9, c10, c11, c12, c13⟩ := (R0.out.keep Q1.out).all
  replace R0 := Lib.hid (R0.out.keep Q1.out)
  replace T0 := Lib.hid (T0.out.below Q1.out)
  replace B0 := Lib.hid (B0.out.trans (Q1.out.mono B0.out.size))
  go_wp2_with fail
  go_ret2
  exact ⟨rfl, B0.out⟩
set_option maxRecDepth 100000 in
set_option maxHeartbeats 8000000 in
theorem put17_t (a : Pl) (S1 S2 S3 S4 S5 S6 X1 X2 X3 X4 X5 X6 X7 : ByteArray) (u : Int) (tu : (a.A != u) = true) (w : World) (hT : Tab w)
    (HX : Hid (∀ w, Calls Tryz.prog 11 #[.agg #[.string ⟨a.N.toArray⟩, .string ⟨a.S.toArray⟩, .int .i64 a.O, .int .i64 a.A, .int .i64 a.B.K, .int .i64 a.B.M, .int .i64 a.B.W, .int .i64 a.B.D, .int .i64 a.B.T, .int .i64 a.E.K, .int .i64 a.E.M, .int .i64 a.E.W, .int .i64 a.E.D, .int .i64 a.E.T]] w fun x w' => x = .returned (ev 0) ∧ Below w.heap.size w w'))
    (HN : Hid (∀ w, Calls Tryz.prog 19 #[.string ⟨a.N.toArray⟩] w fun x w' => x = .returned (.string S1) ∧ Below w.heap.size w w'))
    (HO : Hid (∀ w, Tab w → Calls Tryz.prog 20 #[.int .i64 a.O] w fun x w' => x = .returned (.string S2) ∧ Below w.heap.size w w'))
    (A1 : ∀ W, (Op.stringOp .add S1 S2).run Tryz.prog W = .ok (.string X1) W)
    (HC : Hid (∀ w, Calls Tryz.prog 12 #[.agg #[.string ⟨a.N.toArray⟩, .string ⟨a.S.toArray⟩, .int .i64 a.O, .int .i64 a.A, .int .i64 a.B.K, .int .i64 a.B.M, .int .i64 a.B.W, .int .i64 a.B.D, .int .i64 a.B.T, .int .i64 a.E.K, .int .i64 a.E.M, .int .i64 a.E.W, .int .i64 a.E.D, .int .i64 a.E.T]] w fun x w' => x = .returned (.bool true) ∧ Below w.heap.size w w'))
    (HS : Hid (∀ w, Calls Tryz.prog 19 #[.string ⟨a.S.toArray⟩] w fun x w' => x = .returned (.string S3) ∧ Below w.heap.size w w'))
    (A2 : ∀ W, (Op.stringOp .add X1 S3).run Tryz.prog W = .ok (.string X2) W)
    (HU : Hid (∀ w, Calls Tryz.prog 21 #[.int .i64 a.O] w fun x w' => x = .returned (.int .i64 u) ∧ Below w.heap.size w w'))
    (HA : Hid (∀ w, Tab w → Calls Tryz.prog 20 #[.int .i64 a.A] w fun x w' => x = .returned (.string S4) ∧ Below w.heap.size w w'))
    (A3 : ∀ W, (Op.stringOp .add X2 S4).run Tryz.prog W = .ok (.string X3) W)
    (A4 : ∀ W, (Op.stringOp .add X3 ⟨#[44]⟩).run Tryz.prog W = .ok (.string X4) W)
    (A5 : ∀ W, (Op.stringOp .add X4 S5).run Tryz.prog W = .ok (.string X5) W)
    (A6 : ∀ W, (Op.stringOp .add X5 ⟨#[44]⟩).run Tryz.prog W = .ok (.string X6) W)
    (A7 : ∀ W, (Op.stringOp .add X6 S6).run Tryz.prog W = .ok (.string X7) W)
    (HB : Hid (∀ w, Tab w → Calls Tryz.prog 22 #[.agg #[.int .i64 a.B.K, .int .i64 a.B.M, .int .i64 a.B.W, .int .i64 a.B.D, .int .i64 a.B.T]] w fun x w' => x = .returned (.string S5) ∧ Below w.heap.size w w'))
    (HE : Hid (∀ w, Tab w → Calls Tryz.prog 22 #[.agg #[.int .i64 a.E.K, .int .i64 a.E.M, .int .i64 a.E.W, .int .i64 a.E.D, .int .i64 a.E.T]] w fun x w' => x = .returned (.string S6) ∧ Below w.heap.size w w'))
    : Calls Tryz.prog 8 #[.agg a.cells] w fun x w' => x = .returned (.tuple #[.string X7, ev 0]) ∧ Below w.heap.size w w' := by
  have q0 := fun op t W x k => guard_ev op t W x k
  have q2 := fun W k => neq_ev W k
  obtain ⟨W0, hW0⟩ : ∃ W0, W0 = w.alloc (.cells a.cells 25) := ⟨_, rfl⟩
  have B0 : Hid (Below w.heap.size w W0) := Lib.hid (by rw [hW0]; exact bel16 w _)
  have L0 : Plk W0 w.heap.size a := by rw [hW0]; exact plk_new _ _
  obtain ⟨c0, c1, c2, c3, c4, c5, c6, c7, c8, c9, c10, c11, c12, c13⟩ := L0.all
  have R0 := Lib.hid L0
  have T0 := Lib.hid (hT.below B0.out)
  clear L0 hT
  go_enter Tryz.func8, Tryz.ntmps8
  go_upto_region 1 with fail
  rw [← hW0]; clear hW0
  go_upto_region 4 with (go_at_call 11; with_reducible refine (HX.out _).mono ?_; rintro x w1 ⟨rfl, hb⟩; obtain ⟨c0, c1, c2, c3, c4, c5, c6, c7, c8, c9, c10, c11, c12, c13⟩ := (R0.out.keep hb).all; have R0 := Lib.hid (R0.out.keep hb); have T0 := Lib.hid (T0.out.below hb); have B0 := Lib.hid (B0.out.trans (hb.mono B0.out.size)); clear hb)
  have E1 : Hid (∀ w, Kq16 w1 w → Calls Tryz.prog 19 #[.string ⟨a.N.toArray⟩] w fun x w' => x = .returned (.string S1) ∧ Below w.heap.size w w') := Lib.hid (fun w (k : Kq16 w1 w) => HN.out w)
  have E2 : Hid (∀ w, Kq16 w1 w → Calls Tryz.prog 20 #[.int .i64 a.O] w fun x w' => x = .returned (.string S2) ∧ Below w.heap.size w w') := Lib.hid (fun w (k : Kq16 w1 w) => HO.out w (T0.out.below k.bel))
  have HH := Lib.hid (plk_x R0.out)
  have hKD : Kq16 w1 w1.drew := ⟨(Below.refl _ w1).drew⟩
  go_region_held3 (fun W => (W.cell? ⟨w.heap.size, 0, none⟩ = some (.string ⟨a.N.toArray⟩) ∧ W.cell? ⟨w.heap.size, 2, none⟩ = some (.int .i64 a.O)) ∧ Kq16 w1 W)
    (exact HH.out _ (by assumption))
    (first
      | (go_at_call 19; go_split_ands; (with_reducible refine (E1.out _ (by assumption)).mono ?_); rintro er wra ⟨rfl, hq⟩; have hkr : Kq16 w1 wra := Kq16.step (by assumption) hq; clear hq)
      | (go_at_call 20; go_split_ands; (with_reducible refine (E2.out _ (by assumption)).mono ?_); rintro er wra ⟨rfl, hq⟩; have hkr : Kq16 w1 wra := Kq16.step (by assumption) hq; clear hq))
  have Q1 : Hid (Below w1.heap.size w1 _) := Lib.hid (Kq16.bel (W0 := w1) (by assumption))
  obtain ⟨c0, c1, c2, c3, c4, c5, c6, c7, c8, c9, c10, c11, c12, c13⟩ := (R0.out.keep Q1.out).all
  replace R0 := Lib.hid (R0.out.keep Q1.out)
  replace T0 := Lib.hid (T0.out.below Q1.out)
  replace B0 := Lib.hid (B0.out.trans (Q1.out.mono B0.out.size))
  go_upto_region 8 with (first
    | (go_at_call 12; with_reducible refine (HC.out _).mono ?_; rintro x w2 ⟨rfl, hb⟩; obtain ⟨c0, c1, c2, c3, c4, c5, c6, c7, c8, c9, c10, c11, c12, c13⟩ := (R0.out.keep hb).all; have R0 := Lib.hid (R0.out.keep hb); have T0 := Lib.hid (T0.out.below hb); have B0 := Lib.hid (B0.out.trans (hb.mono B0.out.size)); clear hb)
    | (go_at_call 19; with_reducible refine (HS.out _).mono ?_; rintro x w3 ⟨rfl, hb⟩; obtain ⟨c0, c1, c2, c3, c4, c5, c6, c7, c8, c9, c10, c11, c12, c13⟩ := (R0.out.keep hb).all; have R0 := Lib.hid (R0.out.keep hb); have T0 := Lib.hid (T0.out.below hb); have B0 := Lib.hid (B0.out.trans (hb.mono B0.out.size)); clear hb))
  have E3 : Hid (∀ w, Kq16 w3 w → Calls Tryz.prog 21 #[.int .i64 a.O] w fun x w' => x = .returned (.int .i64 u) ∧ Below w.heap.size w w') := Lib.hid (fun w (k : Kq16 w3 w) => HU.out w)
  have HH := Lib.hid (plk_y R0.out)
  have hKD : Kq16 w3 w3.drew := ⟨(Below.refl _ w3).drew⟩
  go_region_held3 (fun W => (W.cell? ⟨w.heap.size, 2, none⟩ = some (.int .i64 a.O) ∧ W.cell? ⟨w.heap.size, 3, none⟩ = some (.int .i64 a.A)) ∧ Kq16 w3 W)
    (exact HH.out _ (by assumption))
    (first
      | (go_at_call 21; go_split_ands; (with_reducible refine (E3.out _ (by assumption)).mono ?_); rintro er wrb ⟨rfl, hq⟩; have hkr : Kq16 w3 wrb := Kq16.step (by assumption) hq; clear hq))
  have Q1 : Hid (Below w3.heap.size w3 _) := Lib.hid (Kq16.bel (W0 := w3) (by assumption))
  obtain ⟨c0, c1, c2, c3, c4, c5, c6, c7, c8, c9, c10, c11, c12, c13⟩ := (R0.out.keep Q1.out).all
  replace R0 := Lib.hid (R0.out.keep Q1.out)
  replace T0 := Lib.hid (T0.out.below Q1.out)
  replace B0 := Lib.hid (B0.out.trans (Q1.out.mono B0.out.size))
  go_upto_region 10 with (go_at_call 20; with_reducible refine (HA.out _ T0.out).mono ?_; rintro x w4 ⟨rfl, hb⟩; obtain ⟨c0, c1, c2, c3, c4, c5, c6, c7, c8, c9, c10, c11, c12, c13⟩ := (R0.out.keep hb).all; have R0 := Lib.hid (R0.out.keep hb); have T0 := Lib.hid (T0.out.below hb); have B0 := Lib.hid (B0.out.trans (hb.mono B0.out.size)); clear hb)
  have E4 : Hid (∀ w, Kq16 w4 w → Calls Tryz.prog 22 #[.agg #[.int .i64 a.B.K, .int .i64 a.B.M, .int .i64 a.B.W, .int .i64 a.B.D, .int .i64 a.B.T]] w fun x w' => x = .returned (.string S5) ∧ Below w.heap.size w w') := Lib.hid (fun w (k : Kq16 w4 w) => HB.out w (T0.out.below k.bel))
  have E5 : Hid (∀ w, Kq16 w4 w → Calls Tryz.prog 22 #[.agg #[.int .i64 a.E.K, .int .i64 a.E.M, .int .i64 a.E.W, .int .i64 a.E.D, .int .i64 a.E.T]] w fun x w' => x = .returned (.string S6) ∧ Below w.heap.size w w') := Lib.hid (fun w (k : Kq16 w4 w) => HE.out w (T0.out.below k.bel))
  have HH := Lib.hid (plk_z R0.out)
  have hKD : Kq16 w4 w4.drew := ⟨(Below.refl _ w4).drew⟩
  go_region_held3 (fun W => (W.cell? ⟨w.heap.size, 4, none⟩ = some (.int .i64 a.B.K) ∧ W.cell? ⟨w.heap.size, 5, none⟩ = some (.int .i64 a.B.M) ∧ W.cell? ⟨w.heap.size, 6, none⟩ = some (.int .i64 a.B.W) ∧ W.cell? ⟨w.heap.size, 7, none⟩ = some (.int .i64 a.B.D) ∧ W.cell? ⟨w.heap.size, 8, none⟩ = some (.int .i64 a.B.T) ∧ W.cell? ⟨w.heap.size, 9, none⟩ = some (.int .i64 a.E.K) ∧ W.cell? ⟨w.heap.size, 10, none⟩ = some (.int .i64 a.E.M) ∧ W.cell? ⟨w.heap.size, 11, none⟩ = some (.int .i64 a.E.W) ∧ W.cell? ⟨w.heap.size, 12, none⟩ = some (.int .i64 a.E.D) ∧ W.cell? ⟨w.heap.size, 13, none⟩ = some (.int .i64 a.E.T)) ∧ Kq16 w4 W)
    (exact HH.out _ (by assumption))
    (first
      | (go_at_call 22; go_split_ands; (with_reducible refine (E4.out _ (by assumption)).mono ?_); rintro er wrc ⟨rfl, hq⟩; have hkr : Kq16 w4 wrc := Kq16.step (by assumption) hq; clear hq)
      | (go_at_call 22; go_split_ands; (with_reducible refine (E5.out _ (by assumption)).mono ?_); rintro er wrc ⟨rfl, hq⟩; have hkr : Kq16 w4 wrc := Kq16.step (by assumption) hq; clear hq))
  have Q1 : Hid (Below w4.heap.size w4 _) := Lib.hid (Kq16.bel (W0 := w4) (by assumption))
  obtain ⟨c0, c1, c2, c3, c4, c5, c6, c7, c8, c9, c10, c11, c12, c13⟩ := (R0.out.keep Q1.out).all
  replace R0 := Lib.hid (R0.out.keep Q1.out)
  replace T0 := Lib.hid (T0.out.below Q1.out)
  replace B0 := Lib.hid (B0.out.trans (Q1.out.mono B0.out.size))
  go_wp2_with fail
  go_ret2
  exact ⟨rfl, B0.out⟩
end Go.Proofs.YtkhcneacjnpcnaaGreatDoor
