/- Merged: RulD. -/
import Derived.Test.YtkhcneacjnpcnaaGreatDoorGPosixChecks31
import Derived.Deep.RegionHeld3
import Derived.Deep.QuietTactic
import Derived.Deep.DeepCutAuto
namespace Go.Proofs.YtkhcneacjnpcnaaGreatDoor
open Go.RowKit
set_option linter.unusedVariables false
set_option linter.unusedSimpArgs false

/-- What a drawn region keeps: all that was there. -/
structure Kq16 (W0 W : World) : Prop where
  bel : Below W0.heap.size W0 W
theorem Kq16.step {W0 W W' : World} (h : Kq16 W0 W) (hb : Below W.heap.size W W') : Kq16 W0 W' := ⟨h.bel.trans (hb.mono h.bel.size)⟩
theorem rk_held {W0 : World} {p : Nat} {r : Ru} (h : Rk W0 p r) : ∀ W, Kq16 W0 W → (W.cell? ⟨p, 0, none⟩ = some (.int .i64 r.K) ∧ W.cell? ⟨p, 1, none⟩ = some (.int .i64 r.M) ∧ W.cell? ⟨p, 2, none⟩ = some (.int .i64 r.W) ∧ W.cell? ⟨p, 3, none⟩ = some (.int .i64 r.D) ∧ W.cell? ⟨p, 4, none⟩ = some (.int .i64 r.T)) ∧ Kq16 W0 W :=
  fun W hk => ⟨(h.keep hk.bel).all, hk⟩

/-! a rule's day -/
set_option maxHeartbeats 2000000 in
theorem daytext_any (r : Ru) (w : World) (hT : Tab w) (hr : ruE r = 0) :
    Calls Tryz.prog 49 #[.agg r.cells] w fun e w' => e = .returned (.string ⟨(dyL r).toArray⟩) ∧ Below w.heap.size w w' := by
  obtain ⟨W0, hW0⟩ : ∃ W0, W0 = w.alloc (.cells r.cells 23) := ⟨_, rfl⟩
  have B0 : Hid (Below w.heap.size w W0) := Lib.hid (by rw [hW0]; exact bel16 w _)
  have L0 : Rk W0 w.heap.size r := by rw [hW0]; exact rk_new _ _
  obtain ⟨c0, c1, c2, c3, c4⟩ := L0.all
  have R0 := Lib.hid L0
  have T0 := Lib.hid (hT.below B0.out)
  have hk := ruE_kinds hr
  have m0 : 0 ≤ r.M ∧ r.M < 100000 := by omega
  have w0 : 0 ≤ r.W ∧ r.W < 100000 := by omega
  have d0 : 0 ≤ r.D ∧ r.D < 100000 := by omega
  have D1 := Lib.hid (fun w t => digits16_any r.M 1 w (by unfold fits; omega) (by decide) t)
  have D2 := Lib.hid (fun w t => digits16_any r.W 1 w (by unfold fits; omega) (by decide) t)
  have D3 := Lib.hid (fun w t => digits16_any r.D 1 w (by unfold fits; omega) (by decide) t)
  obtain ⟨S1, hS1⟩ : ∃ S, S = (⟨(ptL r.M 1).toArray⟩ : ByteArray) := ⟨_, rfl⟩
  obtain ⟨S2, hS2⟩ : ∃ S, S = (⟨(ptL r.W 1).toArray⟩ : ByteArray) := ⟨_, rfl⟩
  obtain ⟨S3, hS3⟩ : ∃ S, S = (⟨(ptL r.D 1).toArray⟩ : ByteArray) := ⟨_, rfl⟩
  rw [← hS1] at D1; rw [← hS2] at D2; rw [← hS3] at D3
  obtain ⟨z1, l1⟩ := ba_size hS1
  obtain ⟨z2, l2⟩ := ba_size hS2
  obtain ⟨z3, l3⟩ := ba_size hS3
  have b1 := ptL_len (k := 1) m0.1 m0.2 (by omega)
  have b2 := ptL_len (k := 1) w0.1 w0.2 (by omega)
  have b3 := ptL_len (k := 1) d0.1 d0.2 (by omega)
  have b1' : S1.size ≤ 5 := by rw [z1]; exact b1
  have b2' : S2.size ≤ 5 := by rw [z2]; exact b2
  have b3' : S3.size ≤ 5 := by rw [z3]; exact b3
  have u1 : (⟨#[77]⟩ : ByteArray).size = 1 := rfl
  have u2 : (⟨#[46]⟩ : ByteArray).size = 1 := rfl
  have u3 : (⟨#[74]⟩ : ByteArray).size = 1 := rfl
  have HF : Hid (∀ S : ByteArray, S.data.toList = dyL r → Value.string S = .string ⟨(dyL r).toArray⟩) := Lib.hid (fun S h => str_is h)
  have hL : dyL r = if r.K = 1 then [74] ++ ptL r.D 1 else if r.K = 2 then ptL r.D 1 else [77] ++ ptL r.M 1 ++ [46] ++ ptL r.W 1 ++ [46] ++ ptL r.D 1 := rfl
  generalize dyL r = L at *
  obtain ⟨K, M, W9, D, T⟩ := r
  simp only at hk m0 w0 d0 c0 c1 c2 c3 c4 D1 D2 D3 hL l1 l2 l3
  clear hT L0 hS1 hS2 hS3 z1 z2 z3 b1 b2 b3 hr
  rcases (by omega : K = 1 ∨ K = 2 ∨ K = 3) with k | k | k
  · obtain ⟨X, A, e, g⟩ := add_ba ⟨#[74]⟩ S3 (by rw [u3]; decide) (by omega)
    have HG := Lib.hid (HF.out X (by rw [e, l3, hL, if_pos k]))
    clear e g
    have t1 : (K == 3) = false := eq_no (by omega)
    have t2 : (K == 1) = true := eq_yes (by omega)
    have t3 : (K == 2) = false := eq_no (by omega)
    clear k hk m0 w0 d0 l1 l2 l3 hL u1 u2 u3 b1' b2' b3'
    go_enter Tryz.func49, Tryz.ntmps49
    go_upto_region 1 with fail
    rw [← hW0]; clear hW0
    go_wp2_with (first
      | (go_at_call 60; with_reducible refine (D1.out _ T0.out).mono ?_; rintro e w1 ⟨rfl, hb⟩; obtain ⟨c0, c1, c2, c3, c4⟩ := (R0.out.keep hb).all; have R0 := Lib.hid (R0.out.keep hb); have T0 := Lib.hid (T0.out.below hb); have B0 := Lib.hid (B0.out.trans (hb.mono B0.out.size)); clear hb)
      | (go_at_call 60; with_reducible refine (D2.out _ T0.out).mono ?_; rintro e w1 ⟨rfl, hb⟩; obtain ⟨c0, c1, c2, c3, c4⟩ := (R0.out.keep hb).all; have R0 := Lib.hid (R0.out.keep hb); have T0 := Lib.hid (T0.out.below hb); have B0 := Lib.hid (B0.out.trans (hb.mono B0.out.size)); clear hb)
      | (go_at_call 60; with_reducible refine (D3.out _ T0.out).mono ?_; rintro e w1 ⟨rfl, hb⟩; obtain ⟨c0, c1, c2, c3, c4⟩ := (R0.out.keep hb).all; have R0 := Lib.hid (R0.out.keep hb); have T0 := Lib.hid (T0.out.below hb); have B0 := Lib.hid (B0.out.trans (hb.mono B0.out.size)); clear hb))
    go_ret
    exact ⟨ret1_eq HG.out, B0.out⟩
  · have HG := Lib.hid (HF.out S3 (by rw [l3, hL, if_neg (by omega), if_pos k]))
    have t1 : (K == 3) = false := eq_no (by omega)
    have t2 : (K == 1) = false := eq_no (by omega)
    have t3 : (K == 2) = true := eq_yes (by omega)
    clear k hk m0 w0 d0 l1 l2 l3 hL u1 u2 u3 b1' b2' b3'
    go_enter Tryz.func49, Tryz.ntmps49
    go_upto_region 1 with fail
    rw [← hW0]; clear hW0
    go_wp2_with (first
      | (go_at_call 60; with_reducible refine (D1.out _ T0.out).mono ?_; rintro e w1 ⟨rfl, hb⟩; obtain ⟨c0, c1, c2, c3, c4⟩ := (R0.out.keep hb).all; have R0 := Lib.hid (R0.out.keep hb); have T0 := Lib.hid (T0.out.below hb); have B0 := Lib.hid (B0.out.trans (hb.mono B0.out.size)); clear hb)
      | (go_at_call 60; with_reducible refine (D2.out _ T0.out).mono ?_; rintro e w1 ⟨rfl, hb⟩; obtain ⟨c0, c1, c2, c3, c4⟩ := (R0.out.keep hb).all; have R0 := Lib.hid (R0.out.keep hb); have T0 := Lib.hid (T0.out.below hb); have B0 := Lib.hid (B0.out.trans (hb.mono B0.out.size)); clear hb)
      | (go_at_call 60; with_reducible refine (D3.out _ T0.out).mono ?_; rintro e w1 ⟨rfl, hb⟩; obtain ⟨c0, c1, c2, c3, c4⟩ := (R0.out.keep hb).all; have R0 := Lib.hid (R0.out.keep hb); have T0 := Lib.hid (T0.out.below hb); have B0 := Lib.hid (B0.out.trans (hb.mono B0.out.size)); clear hb))
    go_ret
    exact ⟨ret1_eq HG.out, B0.out⟩
  · obtain ⟨X1, A1, e1, g1⟩ := add_ba ⟨#[77]⟩ S1 (by rw [u1]; decide) (by omega)
    obtain ⟨X2, A2, e2, g2⟩ := add_ba X1 ⟨#[46]⟩ (by omega) (by rw [u2]; decide)
    obtain ⟨X3, A3, e3, g3⟩ := add_ba X2 S2 (by omega) (by omega)
    obtain ⟨X4, A4, e4, g4⟩ := add_ba X3 ⟨#[46]⟩ (by omega) (by rw [u2]; decide)
    obtain ⟨X5, A5, e5, g5⟩ := add_ba X4 S3 (by omega) (by omega)
    have HG := Lib.hid (HF.out X5 (by rw [e5, e4, e3, e2, e1, l1, l2, l3, hL, if_neg (by omega), if_neg (by omega)]))
    clear e1 e2 e3 e4 e5 g1 g2 g3 g4 g5
    have t1 : (K == 3) = true := eq_yes (by omega)
    have t2 : (K == 1) = false := eq_no (by omega)
    have t3 : (K == 2) = false := eq_no (by omega)
    clear k hk m0 w0 d0 l1 l2 l3 hL u1 u2 u3 b1' b2' b3'
    have E1 := Lib.hid (fun w (k : Kq16 W0 w) => D1.out w (T0.out.below k.bel))
    have E2 := Lib.hid (fun w (k : Kq16 W0 w) => D2.out w (T0.out.below k.bel))
    have E3 := Lib.hid (fun w (k : Kq16 W0 w) => D3.out w (T0.out.below k.bel))
    have HC := Lib.hid (rk_held R0.out)
    have hKD : Kq16 W0 W0.drew := ⟨(Below.refl _ W0).drew⟩
    go_enter Tryz.func49, Tryz.ntmps49
    go_upto_region 1 with fail
    rw [← hW0]; clear hW0
    go_upto_region 6 with fail
    go_region_held3 (fun W => (W.cell? ⟨w.heap.size, 0, none⟩ = some (.int .i64 K) ∧ W.cell? ⟨w.heap.size, 1, none⟩ = some (.int .i64 M) ∧ W.cell? ⟨w.heap.size, 2, none⟩ = some (.int .i64 W9) ∧ W.cell? ⟨w.heap.size, 3, none⟩ = some (.int .i64 D) ∧ W.cell? ⟨w.heap.size, 4, none⟩ = some (.int .i64 T)) ∧ Kq16 W0 W)
      (exact HC.out _ (by assumption))
      (first
        | (go_at_call 60; go_split_ands; (with_reducible refine (E1.out _ (by assumption)).mono ?_); rintro er wr9 ⟨rfl, hq⟩; have hkr : Kq16 W0 wr9 := Kq16.step (by assumption) hq; clear hq)
        | (go_at_call 60; go_split_ands; (with_reducible refine (E2.out _ (by assumption)).mono ?_); rintro er wr9 ⟨rfl, hq⟩; have hkr : Kq16 W0 wr9 := Kq16.step (by assumption) hq; clear hq)
        | (go_at_call 60; go_split_ands; (with_reducible refine (E3.out _ (by assumption)).mono ?_); rintro er wr9 ⟨rfl, hq⟩; have hkr : Kq16 W0 wr9 := Kq16.step (by assumption) hq; clear hq))
    have Q1 : Hid (Below W0.heap.size W0 _) := Lib.hid (Kq16.bel (W0 := W0) (by assumption))
    go_wp2_with fail
    go_ret
    exact ⟨ret1_eq HG.out, B0.out.trans (Q1.out.mono B0.out.size)⟩

theorem dyL_len {r : Ru} (h : ruE r = 0) : (dyL r).length ≤ 30 := by
  have hk := ruE_kinds h
  have b1 := ptL_len (n := r.M) (k := 1) (by omega) (by omega) (by omega)
  have b2 := ptL_len (n := r.W) (k := 1) (by omega) (by omega) (by omega)
  have b3 := ptL_len (n := r.D) (k := 1) (by omega) (by omega) (by omega)
  unfold dyL
  split
  · rw [List.length_append, List.length_singleton]; exact Nat.le_trans (Nat.add_le_add_left b3 1) (by decide)
  · split
    · exact Nat.le_trans b3 (by decide)
    · simp only [List.length_append, List.length_singleton]
      have c1 : (ptL r.M 1).length ≤ 5 := b1
      have c2 : (ptL r.W 1).length ≤ 5 := b2
      have c3 : (ptL r.D 1).length ≤ 5 := b3
      omega
set_option maxHeartbeats 2000000 in
theorem rput16_any (r : Ru) (w : World) (hT : Tab w) :
    Calls Tryz.prog 36 #[.agg r.cells] w fun e w' => e = .returned (.tuple #[.string ⟨(rtL r).toArray⟩, ev (ruE r)]) ∧ Below w.heap.size w w' := by
  have q0 := fun op t W x k => guard_ev op t W x k
  have q2 := fun W k => neq_ev W k
  obtain ⟨W0, hW0⟩ : ∃ W0, W0 = w.alloc (.cells r.cells 23) := ⟨_, rfl⟩
  have B0 : Hid (Below w.heap.size w W0) := Lib.hid (by rw [hW0]; exact bel16 w _)
  have L0 : Rk W0 w.heap.size r := by rw [hW0]; exact rk_new _ _
  obtain ⟨c0, c1, c2, c3, c4⟩ := L0.all
  have R0 := Lib.hid L0
  have T0 := Lib.hid (hT.below B0.out)
  have HC := Lib.hid (fun w => check_any r w)
  clear L0 hT
  by_cases hr : ruE r = 0
  · have e1 : rtL r = ruL r := if_pos hr
    have HD := Lib.hid (fun w t => daytext_any r w t hr)
    have dl := dyL_len hr
    have tm := (ruE_zero hr).2.2
    unfold tmP at tm
    rw [hr] at HC
    rw [e1, hr]
    obtain ⟨S1, hS1⟩ : ∃ S, S = (⟨(dyL r).toArray⟩ : ByteArray) := ⟨_, rfl⟩
    rw [← hS1] at HD
    obtain ⟨z1, l1⟩ := ba_size hS1
    by_cases t : r.T = 7200
    · have HF : Hid (Value.string S1 = .string ⟨(ruL r).toArray⟩) := Lib.hid (str_is (by rw [l1]; unfold ruL; rw [if_pos t]))
      have t1 := eq_yes t
      clear t e1 hr dl tm z1 l1 hS1
      go_enter Tryz.func36, Tryz.ntmps36
      go_upto_region 1 with fail
      rw [← hW0]; clear hW0
      go_wp2_with (first
        | (go_at_call 28; refine (HC.out _).mono ?_; rintro e w1 ⟨rfl, hb⟩; obtain ⟨c0, c1, c2, c3, c4⟩ := (R0.out.keep hb).all; have R0 := Lib.hid (R0.out.keep hb); have T0 := Lib.hid (T0.out.below hb); have B0 := Lib.hid (B0.out.trans (hb.mono B0.out.size)); clear hb)
        | (go_at_call 49; refine (HD.out _ T0.out).mono ?_; rintro e w2 ⟨rfl, hb⟩; obtain ⟨c0, c1, c2, c3, c4⟩ := (R0.out.keep hb).all; have R0 := Lib.hid (R0.out.keep hb); have T0 := Lib.hid (T0.out.below hb); have B0 := Lib.hid (B0.out.trans (hb.mono B0.out.size)); clear hb))
      go_ret2
      exact ⟨ret2_eq HF.out rfl, B0.out⟩
    · have hn : r.T.natAbs < 3600000 := by omega
      have HK := Lib.hid (fun w => clockof_any r.T w (by omega))
      have ka : 0 ≤ ab r.T ∧ ab r.T < 3600000 := by unfold ab; split <;> omega
      have HX := Lib.hid (fun w t => text_any (decide (r.T < 0)) (ab r.T / 3600) (ab r.T % 3600 / 60) (ab r.T % 60) w t (by omega) (by omega) (by omega))
      rw [ct_ck hn] at HX
      obtain ⟨S2, hS2⟩ : ∃ S, S = (⟨(ckL r.T).toArray⟩ : ByteArray) := ⟨_, rfl⟩
      rw [← hS2] at HX
      obtain ⟨z2, l2⟩ := ba_size hS2
      have cl := ckL_len hn
      have u1 : (⟨#[47]⟩ : ByteArray).size = 1 := rfl
      obtain ⟨X1, A1, g1, j1⟩ := add_ba S1 ⟨#[47]⟩ (by omega) (by rw [u1]; decide)
      obtain ⟨X2, A2, g2, j2⟩ := add_ba X1 S2 (by omega) (by omega)
      have HF : Hid (Value.string X2 = .string ⟨(ruL r).toArray⟩) := Lib.hid (str_is (by rw [g2, g1, l1, l2]; unfold ruL; rw [if_neg t]))
      have t1 := eq_no t
      generalize decide (r.T < 0) = N at *
      generalize ab r.T / 3600 = h at *
      generalize ab r.T % 3600 / 60 = m at *
      generalize ab r.T % 60 = s at *
      clear t e1 hr dl tm z1 z2 l1 l2 hS1 hS2 hn cl u1 g1 g2 j1 j2 ka
      go_enter Tryz.func36, Tryz.ntmps36
      go_upto_region 1 with fail
      rw [← hW0]; clear hW0
      go_upto_region 6 with (go_at_call 28; refine (HC.out _).mono ?_; rintro e w1 ⟨rfl, hb⟩; obtain ⟨c0, c1, c2, c3, c4⟩ := (R0.out.keep hb).all; have R0 := Lib.hid (R0.out.keep hb); have T0 := Lib.hid (T0.out.below hb); have B0 := Lib.hid (B0.out.trans (hb.mono B0.out.size)); clear hb)
      have HH := Lib.hid (rk_held R0.out)
      have E1 : Hid (∀ w, Kq16 w1 w → Calls Tryz.prog 49 #[.agg #[.int .i64 r.K, .int .i64 r.M, .int .i64 r.W, .int .i64 r.D, .int .i64 r.T]] w fun e w' => e = .returned (.string S1) ∧ Below w.heap.size w w') := Lib.hid (fun w (k : Kq16 w1 w) => HD.out w (T0.out.below k.bel))
      have E2 := Lib.hid (fun w (k : Kq16 w1 w) => HX.out w (T0.out.below k.bel))
      have hKD : Kq16 w1 w1.drew := ⟨(Below.refl _ w1).drew⟩
      go_region_held3 (fun W => (W.cell? ⟨w.heap.size, 0, none⟩ = some (.int .i64 r.K) ∧ W.cell? ⟨w.heap.size, 1, none⟩ = some (.int .i64 r.M) ∧ W.cell? ⟨w.heap.size, 2, none⟩ = some (.int .i64 r.W) ∧ W.cell? ⟨w.heap.size, 3, none⟩ = some (.int .i64 r.D) ∧ W.cell? ⟨w.heap.size, 4, none⟩ = some (.int .i64 r.T)) ∧ Kq16 w1 W)
        (exact HH.out _ (by assumption))
        (first
          | (go_at_call 49; go_split_ands; (with_reducible refine (E1.out _ (by assumption)).mono ?_); rintro er wr9 ⟨rfl, hq⟩; have hkr : Kq16 w1 wr9 := Kq16.step (by assumption) hq; clear hq)
          | (go_at_call 47; go_split_ands; (with_reducible refine (HK.out _).mono ?_); rintro er wr9 ⟨rfl, hq⟩; have hkr : Kq16 w1 wr9 := Kq16.step (by assumption) hq; clear hq)
          | (go_at_call 48; go_split_ands; (with_reducible refine (E2.out _ (by assumption)).mono ?_); rintro er wr9 ⟨rfl, hq⟩; have hkr : Kq16 w1 wr9 := Kq16.step (by assumption) hq; clear hq))
      have Q1 : Hid (Below w1.heap.size w1 _) := Lib.hid (Kq16.bel (W0 := w1) (by assumption))
      go_wp2_with fail
      go_ret2
      exact ⟨ret2_eq HF.out rfl, B0.out.trans (Q1.out.mono B0.out.size)⟩
  · have e1 : rtL r = [] := if_neg hr
    rw [e1]
    have t1 := ne_yes hr
    generalize ruE r = E at *
    clear hr e1
    go_enter Tryz.func36, Tryz.ntmps36
    go_upto_region 1 with fail
    rw [← hW0]; clear hW0
    go_wp2_with (go_at_call 28; refine (HC.out _).mono ?_; rintro e w1 ⟨rfl, hb⟩; obtain ⟨c0, c1, c2, c3, c4⟩ := (R0.out.keep hb).all; have R0 := Lib.hid (R0.out.keep hb); have T0 := Lib.hid (T0.out.below hb); have B0 := Lib.hid (B0.out.trans (hb.mono B0.out.size)); clear hb)
    go_ret2
    exact ⟨rfl, B0.out⟩

/-! clock times -/
set_option maxHeartbeats 2000000 in
theorem putclock_any (t most : Int) (w : World) (hT : Tab w) (ht : fits t) :
    Calls Tryz.prog 35 #[.int .i64 t, .int .i64 most] w fun e w' => e = .returned (.tuple #[.string ⟨(pkL t most).toArray⟩, ev (pkE t most)]) ∧ Below w.heap.size w w' := by
  have HW := Lib.hid (fun n a b w => wi_any n a b w)
  cases a : wiB most 0 999 with
  | false =>
    have hp : ¬ pkP t most := fun h => wiB_no.1 a h.1
    have e1 : pkL t most = [] := if_neg hp
    have e2 : pkE t most = 1 := if_neg hp
    rw [e1, e2, ev_pos (k := 1) (by decide)]
    clear hp e1 e2 hT ht
    go_enter Tryz.func35, Tryz.ntmps35
    go_wp2_with (go_at_call 39; refine (HW.out _ _ _ _).mono ?_; rintro e w' ⟨rfl, rfl⟩)
    go_ret2
    exact ⟨rfl, Below.refl _ _⟩
  | true =>
    have hm := wiB_yes.1 a
    obtain ⟨E, hE⟩ : ∃ E, E = 3600 * (most + 1) := ⟨_, rfl⟩
    have r1 : IntKind.i64.wrap (most + 1) = most + 1 := IntWalk.i64_in _ (by omega)
    have r2 : IntKind.i64.wrap (3600 * (most + 1)) = E := by rw [hE]; exact IntWalk.i64_in _ (by omega)
    have r3 : IntKind.i64.wrap (1 - E) = 1 - E := IntWalk.i64_in _ (by omega)
    have r4 : IntKind.i64.wrap (E - 1) = E - 1 := IntWalk.i64_in _ (by omega)
    have s1 : wrap64 (most + 1) = most + 1 := by unfold wrap64; omega
    have s2 : wrap64 (3600 * (most + 1)) = E := by unfold wrap64; omega
    have s3 : wrap64 (1 - E) = 1 - E := by unfold wrap64; omega
    have s4 : wrap64 (E - 1) = E - 1 := by unfold wrap64; omega
    cases b : wiB t (1 - E) (E - 1) with
    | false =>
      have hp : ¬ pkP t most := fun ⟨_, h1, h2⟩ => wiB_no.1 b (by omega)
      have e1 : pkL t most = [] := if_neg hp
      have e2 : pkE t most = 1 := if_neg hp
      rw [e1, e2, ev_pos (k := 1) (by decide)]
      clear hp e1 e2 hT ht hm hE
      go_enter Tryz.func35, Tryz.ntmps35
      go_wp2_with (go_at_call 39; refine (HW.out _ _ _ _).mono ?_; rintro e w' ⟨rfl, rfl⟩)
      go_ret2
      exact ⟨rfl, Below.refl _ _⟩
    | true =>
      have hb := wiB_yes.1 b
      have hp : pkP t most := ⟨hm, by omega, by omega⟩
      have e1 : pkL t most = ckL t := if_pos hp
      have e2 : pkE t most = 0 := if_pos hp
      rw [e1, e2]
      have hn : t.natAbs < 3600000 := by omega
      have HK := Lib.hid (fun w => clockof_any t w (by omega))
      have ka : 0 ≤ ab t ∧ ab t < 3600000 := by unfold ab; split <;> omega
      have HX := Lib.hid (fun w T => text_any (decide (t < 0)) (ab t / 3600) (ab t % 3600 / 60) (ab t % 60) w T (by omega) (by omega) (by omega))
      rw [ct_ck hn] at HX
      generalize decide (t < 0) = N at *
      generalize ab t / 3600 = h at *
      generalize ab t % 3600 / 60 = m at *
      generalize ab t % 60 = s at *
      generalize ckL t = L at *
      have B0 := Lib.hid (Below.refl w.heap.size w)
      have T0 := Lib.hid hT
      clear hp e1 e2 hT ht hm hE hb hn ka
      go_enter Tryz.func35, Tryz.ntmps35
      go_wp2_with (first
        | (go_at_call 39; refine (HW.out _ _ _ _).mono ?_; rintro e w' ⟨rfl, rfl⟩)
        | (go_at_call 47; refine (HK.out _).mono ?_; rintro e w3 ⟨rfl, hb⟩; have T0 := Lib.hid (T0.out.below hb); have B0 := Lib.hid (B0.out.trans (hb.mono B0.out.size)); clear hb)
        | (go_at_call 48; refine (HX.out _ T0.out).mono ?_; rintro e w4 ⟨rfl, hb⟩; have T0 := Lib.hid (T0.out.below hb); have B0 := Lib.hid (B0.out.trans (hb.mono B0.out.size)); clear hb))
      go_ret2
      exact ⟨rfl, B0.out⟩
end Go.Proofs.YtkhcneacjnpcnaaGreatDoor
