/- Merged: RulY. -/
import Derived.Test.YtkhcneacjnpcnaaGreatDoorGPosixChecks28
import Derived.Test.YtkhcneacjnpcnaaGreatDoorGPosixChecks32
import Derived.Test.YtkhcneacjnpcnaaGreatDoorGPosixChecks48
namespace Go.Proofs.YtkhcneacjnpcnaaGreatDoor
open Go.RowKit
set_option linter.unusedVariables false
set_option linter.unusedSimpArgs false

theorem raw16 (x : Int) (k : Nat) (w : World) (h : 0 ≤ x) (h2 : x ≤ 9223372036854775807) (hk : k ≤ 20) : Calls Tryz.prog 37 #[.int .i64 x, .int .i64 (k : Int)] w fun e w' => e = .returned (.string ⟨(ptL x k).toArray⟩) ∧ Below w.heap.size w w' := by
  obtain ⟨n, rfl⟩ : ∃ n : Nat, x = n := ⟨x.toNat, by omega⟩
  have := raw_any n k w (by omega) (by omega)
  rw [pt_is h hk, Int.natAbs_natCast]
  exact this
theorem raw16_1 (x : Int) (w : World) (h : 0 ≤ x) (h2 : x < 100000) : Calls Tryz.prog 37 #[.int .i64 x, .int .i64 1] w fun e w' => e = .returned (.string ⟨(ptL x 1).toArray⟩) ∧ Below w.heap.size w w' := raw16 x 1 w h (by omega) (by omega)
theorem raw16_2 (x : Int) (w : World) (h : 0 ≤ x) (h2 : x < 100000) : Calls Tryz.prog 37 #[.int .i64 x, .int .i64 2] w fun e w' => e = .returned (.string ⟨(ptL x 2).toArray⟩) ∧ Below w.heap.size w w' := raw16 x 2 w h (by omega) (by omega)
theorem ck_parts {t a : Int} (ha : a = if t < 0 then -t else t) (hb : a < 3600000) : ckL t = (if t < 0 then [45] else []) ++ ptL (a / 3600) 1 ++ (if a % 3600 = 0 then [] else [58] ++ ptL (a / 60 % 60) 2) ++ (if a % 60 = 0 then [] else [58] ++ ptL (a % 60) 2) := by
  have e : a = ((t.natAbs : Nat) : Int) := by rw [ha]; split <;> omega
  rw [e]
  unfold ckL ckU
  generalize t.natAbs = n at *
  rw [pt1 (by omega), pt2 (by omega), pt2 (by omega)]
  rw [show ((n : Int) / 3600).natAbs = n / 3600 by omega, show ((n : Int) / 60 % 60).natAbs = n / 60 % 60 by omega, show ((n : Int) % 60).natAbs = n % 60 by omega]
  have c1 : ((n : Int) % 3600 = 0) ↔ n % 3600 = 0 := by omega
  have c2 : ((n : Int) % 60 = 0) ↔ n % 60 = 0 := by omega
  simp only [c1]
  simp only [c2]
  by_cases d : t < 0
  · rw [if_pos d, if_pos d]; simp
  · rw [if_neg d, if_neg d]; simp

set_option maxHeartbeats 4000000 in
theorem rclock_any (t : Int) (w : World) (ht : -3600000 < t ∧ t < 3600000) :
    Calls Tryz.prog 24 #[.int .i64 t] w fun e w' => e = .returned (.string ⟨(ckL t).toArray⟩) ∧ Below w.heap.size w w' := by
  obtain ⟨a, ha⟩ : ∃ a, a = if t < 0 then -t else t := ⟨_, rfl⟩
  have a0 : 0 ≤ a ∧ a < 3600000 := by rw [ha]; split <;> omega
  have HL := ck_parts ha a0.2
  have D1 := Lib.hid (fun w => raw16_1 (a / 3600) w (by omega) (by omega))
  have D2 := Lib.hid (fun w => raw16_2 (a / 60 % 60) w (by omega) (by omega))
  have D3 := Lib.hid (fun w => raw16_2 (a % 60) w (by omega) (by omega))
  obtain ⟨S1, hS1⟩ : ∃ S, S = (⟨(ptL (a / 3600) 1).toArray⟩ : ByteArray) := ⟨_, rfl⟩
  obtain ⟨S2, hS2⟩ : ∃ S, S = (⟨(ptL (a / 60 % 60) 2).toArray⟩ : ByteArray) := ⟨_, rfl⟩
  obtain ⟨S3, hS3⟩ : ∃ S, S = (⟨(ptL (a % 60) 2).toArray⟩ : ByteArray) := ⟨_, rfl⟩
  rw [← hS1] at D1; rw [← hS2] at D2; rw [← hS3] at D3
  obtain ⟨z1, l1⟩ := ba_size hS1
  obtain ⟨z2, l2⟩ := ba_size hS2
  obtain ⟨z3, l3⟩ := ba_size hS3
  have b1 := ptL_len (n := a / 3600) (k := 1) (by omega) (by omega) (by omega)
  have b2 := ptL_len (n := a / 60 % 60) (k := 2) (by omega) (by omega) (by omega)
  have b3 := ptL_len (n := a % 60) (k := 2) (by omega) (by omega) (by omega)
  have b1' : S1.size ≤ 5 := by rw [z1]; exact b1
  have b2' : S2.size ≤ 5 := by rw [z2]; exact b2
  have b3' : S3.size ≤ 5 := by rw [z3]; exact b3
  obtain ⟨X0, A0, e0, g0⟩ := add_ba ⟨#[]⟩ S1 (by decide) (by omega)
  obtain ⟨X1, A1, e1, g1⟩ := add_ba ⟨#[45]⟩ S1 (by decide) (by omega)
  obtain ⟨Y2, A2, e2, g2⟩ := add_ba ⟨#[58]⟩ S2 (by decide) (by omega)
  obtain ⟨Y3, A3, e3, g3⟩ := add_ba ⟨#[58]⟩ S3 (by decide) (by omega)
  have u0 : (⟨#[]⟩ : ByteArray).size = 0 := rfl
  have u1 : (⟨#[45]⟩ : ByteArray).size = 1 := rfl
  have u2 : (⟨#[58]⟩ : ByteArray).size = 1 := rfl
  rw [u0] at g0; rw [u1] at g1; rw [u2] at g2 g3
  rw [l1] at e0 e1; rw [l2] at e2; rw [l3] at e3
  have B := Lib.hid (Below.refl w.heap.size w)
  have v1 : a.tdiv 3600 = a / 3600 := Int.tdiv_eq_ediv_of_nonneg a0.1
  have v2 : a.tdiv 60 = a / 60 := Int.tdiv_eq_ediv_of_nonneg a0.1
  clear hS1 hS2 hS3 z1 z2 z3 b1 b2 b3 u0 u1 u2
  rcases (by omega : t < 0 ∨ ¬ t < 0) with hn | hn
  · have t0 : decide (t < 0) = true := lt_yes hn
    rw [if_pos hn] at ha HL
    have r1 : IntKind.i64.wrap (0 - t) = a := by rw [ha, show 0 - t = -t by omega]; exact IntWalk.i64_in _ (by omega)
    have r2 : wrap64 (0 - t) = a := by rw [ha]; unfold wrap64; omega
    have r3 : IntKind.i64.wrap (-t) = a := by rw [ha]; exact IntWalk.i64_in _ (by omega)
    have r4 : wrap64 (-t) = a := by rw [ha]; unfold wrap64; omega
    clear ha ht hn
    rcases (by omega : (a % 3600 = 0 ∧ a % 60 = 0) ∨ (a % 3600 ≠ 0 ∧ a % 60 = 0) ∨ (a % 3600 ≠ 0 ∧ a % 60 ≠ 0)) with ⟨m0, s0⟩ | ⟨m0, s0⟩ | ⟨m0, s0⟩
    · have t1 := ne_no m0
      have t2 := ne_no s0
      have HF : Hid (Value.string X1 = .string ⟨(ckL t).toArray⟩) := Lib.hid (str_is (by rw [HL, if_pos m0, if_pos s0, e1]; try simp))
      clear HL m0 s0 e0 e1 e2 e3 l1 l2 l3
      go_enter Tryz.func24, Tryz.ntmps24
      go_wp2_with (first
        | (go_at_call 37; with_reducible refine (D1.out _).mono ?_; rintro e w1 ⟨rfl, hb⟩; have B := Lib.hid (B.out.trans (hb.mono B.out.size)); clear hb)
        | (go_at_call 37; with_reducible refine (D2.out _).mono ?_; rintro e w1 ⟨rfl, hb⟩; have B := Lib.hid (B.out.trans (hb.mono B.out.size)); clear hb)
        | (go_at_call 37; with_reducible refine (D3.out _).mono ?_; rintro e w1 ⟨rfl, hb⟩; have B := Lib.hid (B.out.trans (hb.mono B.out.size)); clear hb))
      go_ret
      exact ⟨ret1_eq HF.out, B.out⟩
    · have t1 := ne_yes m0
      have t2 := ne_no s0
      obtain ⟨P2, C2, k2, j2⟩ := add_ba X1 Y2 (by omega) (by omega)
      have HF : Hid (Value.string P2 = .string ⟨(ckL t).toArray⟩) := Lib.hid (str_is (by rw [HL, if_neg m0, if_pos s0, k2, e1, e2]; try simp))
      clear HL m0 s0 e0 e1 e2 e3 l1 l2 l3 k2
      go_enter Tryz.func24, Tryz.ntmps24
      go_wp2_with (first
        | (go_at_call 37; with_reducible refine (D1.out _).mono ?_; rintro e w1 ⟨rfl, hb⟩; have B := Lib.hid (B.out.trans (hb.mono B.out.size)); clear hb)
        | (go_at_call 37; with_reducible refine (D2.out _).mono ?_; rintro e w1 ⟨rfl, hb⟩; have B := Lib.hid (B.out.trans (hb.mono B.out.size)); clear hb)
        | (go_at_call 37; with_reducible refine (D3.out _).mono ?_; rintro e w1 ⟨rfl, hb⟩; have B := Lib.hid (B.out.trans (hb.mono B.out.size)); clear hb))
      go_ret
      exact ⟨ret1_eq HF.out, B.out⟩
    · have t1 := ne_yes m0
      have t2 := ne_yes s0
      obtain ⟨P2, C2, k2, j2⟩ := add_ba X1 Y2 (by omega) (by omega)
      obtain ⟨P3, C3, k3, j3⟩ := add_ba P2 Y3 (by omega) (by omega)
      have HF : Hid (Value.string P3 = .string ⟨(ckL t).toArray⟩) := Lib.hid (str_is (by rw [HL, if_neg m0, if_neg s0, k3, k2, e1, e2, e3]; try simp))
      clear HL m0 s0 e0 e1 e2 e3 l1 l2 l3 k2 k3
      go_enter Tryz.func24, Tryz.ntmps24
      go_wp2_with (first
        | (go_at_call 37; with_reducible refine (D1.out _).mono ?_; rintro e w1 ⟨rfl, hb⟩; have B := Lib.hid (B.out.trans (hb.mono B.out.size)); clear hb)
        | (go_at_call 37; with_reducible refine (D2.out _).mono ?_; rintro e w1 ⟨rfl, hb⟩; have B := Lib.hid (B.out.trans (hb.mono B.out.size)); clear hb)
        | (go_at_call 37; with_reducible refine (D3.out _).mono ?_; rintro e w1 ⟨rfl, hb⟩; have B := Lib.hid (B.out.trans (hb.mono B.out.size)); clear hb))
      go_ret
      exact ⟨ret1_eq HF.out, B.out⟩
  · have t0 : decide (t < 0) = false := lt_no hn
    rw [if_neg hn] at ha HL
    obtain rfl : t = a := ha.symm
    clear ht hn
    rcases (by omega : (t % 3600 = 0 ∧ t % 60 = 0) ∨ (t % 3600 ≠ 0 ∧ t % 60 = 0) ∨ (t % 3600 ≠ 0 ∧ t % 60 ≠ 0)) with ⟨m0, s0⟩ | ⟨m0, s0⟩ | ⟨m0, s0⟩
    · have t1 := ne_no m0
      have t2 := ne_no s0
      have HF : Hid (Value.string X0 = .string ⟨(ckL t).toArray⟩) := Lib.hid (str_is (by rw [HL, if_pos m0, if_pos s0, e0]; try simp))
      clear HL m0 s0 e0 e1 e2 e3 l1 l2 l3
      go_enter Tryz.func24, Tryz.ntmps24
      go_wp2_with (first
        | (go_at_call 37; with_reducible refine (D1.out _).mono ?_; rintro e w1 ⟨rfl, hb⟩; have B := Lib.hid (B.out.trans (hb.mono B.out.size)); clear hb)
        | (go_at_call 37; with_reducible refine (D2.out _).mono ?_; rintro e w1 ⟨rfl, hb⟩; have B := Lib.hid (B.out.trans (hb.mono B.out.size)); clear hb)
        | (go_at_call 37; with_reducible refine (D3.out _).mono ?_; rintro e w1 ⟨rfl, hb⟩; have B := Lib.hid (B.out.trans (hb.mono B.out.size)); clear hb))
      go_ret
      exact ⟨ret1_eq HF.out, B.out⟩
    · have t1 := ne_yes m0
      have t2 := ne_no s0
      obtain ⟨P2, C2, k2, j2⟩ := add_ba X0 Y2 (by omega) (by omega)
      have HF : Hid (Value.string P2 = .string ⟨(ckL t).toArray⟩) := Lib.hid (str_is (by rw [HL, if_neg m0, if_pos s0, k2, e0, e2]; try simp))
      clear HL m0 s0 e0 e1 e2 e3 l1 l2 l3 k2
      go_enter Tryz.func24, Tryz.ntmps24
      go_wp2_with (first
        | (go_at_call 37; with_reducible refine (D1.out _).mono ?_; rintro e w1 ⟨rfl, hb⟩; have B := Lib.hid (B.out.trans (hb.mono B.out.size)); clear hb)
        | (go_at_call 37; with_reducible refine (D2.out _).mono ?_; rintro e w1 ⟨rfl, hb⟩; have B := Lib.hid (B.out.trans (hb.mono B.out.size)); clear hb)
        | (go_at_call 37; with_reducible refine (D3.out _).mono ?_; rintro e w1 ⟨rfl, hb⟩; have B := Lib.hid (B.out.trans (hb.mono B.out.size)); clear hb))
      go_ret
      exact ⟨ret1_eq HF.out, B.out⟩
    · have t1 := ne_yes m0
      have t2 := ne_yes s0
      obtain ⟨P2, C2, k2, j2⟩ := add_ba X0 Y2 (by omega) (by omega)
      obtain ⟨P3, C3, k3, j3⟩ := add_ba P2 Y3 (by omega) (by omega)
      have HF : Hid (Value.string P3 = .string ⟨(ckL t).toArray⟩) := Lib.hid (str_is (by rw [HL, if_neg m0, if_neg s0, k3, k2, e0, e2, e3]; try simp))
      clear HL m0 s0 e0 e1 e2 e3 l1 l2 l3 k2 k3
      go_enter Tryz.func24, Tryz.ntmps24
      go_wp2_with (first
        | (go_at_call 37; with_reducible refine (D1.out _).mono ?_; rintro e w1 ⟨rfl, hb⟩; have B := Lib.hid (B.out.trans (hb.mono B.out.size)); clear hb)
        | (go_at_call 37; with_reducible refine (D2.out _).mono ?_; rintro e w1 ⟨rfl, hb⟩; have B := Lib.hid (B.out.trans (hb.mono B.out.size)); clear hb)
        | (go_at_call 37; with_reducible refine (D3.out _).mono ?_; rintro e w1 ⟨rfl, hb⟩; have B := Lib.hid (B.out.trans (hb.mono B.out.size)); clear hb))
      go_ret
      exact ⟨ret1_eq HF.out, B.out⟩

theorem qk_held {W0 : World} {p : Nat} {r : Ru} (h : Qk W0 p r) : ∀ W, Kq16 W0 W → (W.cell? ⟨p, 0, none⟩ = some (.int .i64 r.K) ∧ W.cell? ⟨p, 1, none⟩ = some (.int .i64 r.M) ∧ W.cell? ⟨p, 2, none⟩ = some (.int .i64 r.W) ∧ W.cell? ⟨p, 3, none⟩ = some (.int .i64 r.D) ∧ W.cell? ⟨p, 4, none⟩ = some (.int .i64 r.T)) ∧ Kq16 W0 W :=
  fun W hk => ⟨(h.keep hk.bel).all, hk⟩
set_option maxHeartbeats 4000000 in
theorem rput16_1u (r : Ru) (w : World) (hr : ruE r = 0) (k : r.K = 1) (ht : r.T = 7200) :
    Calls Tryz.prog 25 #[.agg r.cells] w fun e w' => e = .returned (.string ⟨(ruL r).toArray⟩) ∧ Below w.heap.size w w' := by
  obtain ⟨W0, hW0⟩ : ∃ W0, W0 = w.alloc (.cells r.cells 29) := ⟨_, rfl⟩
  have B : Hid (Below w.heap.size w W0) := Lib.hid (by rw [hW0]; exact bel16 w _)
  have L0 : Qk W0 w.heap.size r := by rw [hW0]; exact qk_new _ _
  obtain ⟨c0, c1, c2, c3, c4⟩ := L0.all
  have R := Lib.hid L0
  have hk := ruE_kinds hr
  have tm := (ruE_zero hr).2.2
  unfold tmP at tm
  have dl := dyL_len hr
  have D1 := Lib.hid (fun w => raw16_1 r.M w (by omega) (by omega))
  have D2 := Lib.hid (fun w => raw16_1 r.W w (by omega) (by omega))
  have D3 := Lib.hid (fun w => raw16_1 r.D w (by omega) (by omega))
  have DC := Lib.hid (fun w => rclock_any r.T w (by omega))
  obtain ⟨S1, hS1⟩ : ∃ S, S = (⟨(ptL r.M 1).toArray⟩ : ByteArray) := ⟨_, rfl⟩
  obtain ⟨S2, hS2⟩ : ∃ S, S = (⟨(ptL r.W 1).toArray⟩ : ByteArray) := ⟨_, rfl⟩
  obtain ⟨S3, hS3⟩ : ∃ S, S = (⟨(ptL r.D 1).toArray⟩ : ByteArray) := ⟨_, rfl⟩
  obtain ⟨S4, hS4⟩ : ∃ S, S = (⟨(ckL r.T).toArray⟩ : ByteArray) := ⟨_, rfl⟩
  rw [← hS1] at D1; rw [← hS2] at D2; rw [← hS3] at D3; rw [← hS4] at DC
  obtain ⟨z1, l1⟩ := ba_size hS1
  obtain ⟨z2, l2⟩ := ba_size hS2
  obtain ⟨z3, l3⟩ := ba_size hS3
  obtain ⟨z4, l4⟩ := ba_size hS4
  have b1 := ptL_len (n := r.M) (k := 1) (by omega) (by omega) (by omega)
  have b2 := ptL_len (n := r.W) (k := 1) (by omega) (by omega) (by omega)
  have b3 := ptL_len (n := r.D) (k := 1) (by omega) (by omega) (by omega)
  have b4 := ckL_len (t := r.T) (by omega)
  have b1' : S1.size ≤ 5 := by rw [z1]; exact b1
  have b2' : S2.size ≤ 5 := by rw [z2]; exact b2
  have b3' : S3.size ≤ 5 := by rw [z3]; exact b3
  have b4' : S4.size ≤ 10 := by rw [z4]; exact b4
  have u1 : (⟨#[77]⟩ : ByteArray).size = 1 := rfl
  have u2 : (⟨#[46]⟩ : ByteArray).size = 1 := rfl
  have u3 : (⟨#[74]⟩ : ByteArray).size = 1 := rfl
  have u4 : (⟨#[47]⟩ : ByteArray).size = 1 := rfl
  obtain ⟨Y4, A4, e4, g4⟩ := add_ba ⟨#[47]⟩ S4 (by rw [u4]; decide) (by omega)
  have HH := Lib.hid (qk_held R.out)
  obtain ⟨X, A, e, g⟩ := add_ba ⟨#[74]⟩ S3 (by rw [u3]; decide) (by omega)
  have hx : X.data.toList = dyL r := by rw [e, l3]; unfold dyL; rw [if_pos k]
  have hxs : X.size ≤ 30 := by omega
  have HF : Hid (Value.string X = .string ⟨(ruL r).toArray⟩) := Lib.hid (str_is (by rw [hx]; unfold ruL; rw [if_pos ht]))
  have t4 := ne_no ht
  have t1 : (r.K == 1) = true := eq_yes (by omega)
  have t3 : (r.K == 3) = false := eq_no (by omega)
  obtain ⟨K, M, W9, D, T⟩ := r
  simp only at D1 D2 D3 DC HH c0 c1 c2 c3 c4 t1 t3 t4
  clear L0 hr hk tm dl hS1 hS2 hS3 hS4 z1 z2 z3 z4 l1 l2 l3 l4 b1 b2 b3 b4 u1 u2 u3 u4 e4 hx k ht e
  go_enter Tryz.func25, Tryz.ntmps25
  go_upto_region 1 with fail
  rw [← hW0]; clear hW0
  go_wp2_with (first
    | (go_at_call 37; with_reducible refine (D3.out _).mono ?_; rintro e w1 ⟨rfl, hb⟩; obtain ⟨c0, c1, c2, c3, c4⟩ := (R.out.keep hb).all; have R := Lib.hid (R.out.keep hb); have B := Lib.hid (B.out.trans (hb.mono B.out.size)); clear hb)
    | (go_at_call 24; refine (DC.out _).mono ?_; rintro e w3 ⟨rfl, hb⟩; obtain ⟨c0, c1, c2, c3, c4⟩ := (R.out.keep hb).all; have R := Lib.hid (R.out.keep hb); have B := Lib.hid (B.out.trans (hb.mono B.out.size)); clear hb))
  go_ret
  exact ⟨ret1_eq HF.out, B.out⟩
set_option maxHeartbeats 4000000 in
theorem rput16_1t (r : Ru) (w : World) (hr : ruE r = 0) (k : r.K = 1) (ht : r.T ≠ 7200) :
    Calls Tryz.prog 25 #[.agg r.cells] w fun e w' => e = .returned (.string ⟨(ruL r).toArray⟩) ∧ Below w.heap.size w w' := by
  obtain ⟨W0, hW0⟩ : ∃ W0, W0 = w.alloc (.cells r.cells 29) := ⟨_, rfl⟩
  have B : Hid (Below w.heap.size w W0) := Lib.hid (by rw [hW0]; exact bel16 w _)
  have L0 : Qk W0 w.heap.size r := by rw [hW0]; exact qk_new _ _
  obtain ⟨c0, c1, c2, c3, c4⟩ := L0.all
  have R := Lib.hid L0
  have hk := ruE_kinds hr
  have tm := (ruE_zero hr).2.2
  unfold tmP at tm
  have dl := dyL_len hr
  have D1 := Lib.hid (fun w => raw16_1 r.M w (by omega) (by omega))
  have D2 := Lib.hid (fun w => raw16_1 r.W w (by omega) (by omega))
  have D3 := Lib.hid (fun w => raw16_1 r.D w (by omega) (by omega))
  have DC := Lib.hid (fun w => rclock_any r.T w (by omega))
  obtain ⟨S1, hS1⟩ : ∃ S, S = (⟨(ptL r.M 1).toArray⟩ : ByteArray) := ⟨_, rfl⟩
  obtain ⟨S2, hS2⟩ : ∃ S, S = (⟨(ptL r.W 1).toArray⟩ : ByteArray) := ⟨_, rfl⟩
  obtain ⟨S3, hS3⟩ : ∃ S, S = (⟨(ptL r.D 1).toArray⟩ : ByteArray) := ⟨_, rfl⟩
  obtain ⟨S4, hS4⟩ : ∃ S, S = (⟨(ckL r.T).toArray⟩ : ByteArray) := ⟨_, rfl⟩
  rw [← hS1] at D1; rw [← hS2] at D2; rw [← hS3] at D3; rw [← hS4] at DC
  obtain ⟨z1, l1⟩ := ba_size hS1
  obtain ⟨z2, l2⟩ := ba_size hS2
  obtain ⟨z3, l3⟩ := ba_size hS3
  obtain ⟨z4, l4⟩ := ba_size hS4
  have b1 := ptL_len (n := r.M) (k := 1) (by omega) (by omega) (by omega)
  have b2 := ptL_len (n := r.W) (k := 1) (by omega) (by omega) (by omega)
  have b3 := ptL_len (n := r.D) (k := 1) (by omega) (by omega) (by omega)
  have b4 := ckL_len (t := r.T) (by omega)
  have b1' : S1.size ≤ 5 := by rw [z1]; exact b1
  have b2' : S2.size ≤ 5 := by rw [z2]; exact b2
  have b3' : S3.size ≤ 5 := by rw [z3]; exact b3
  have b4' : S4.size ≤ 10 := by rw [z4]; exact b4
  have u1 : (⟨#[77]⟩ : ByteArray).size = 1 := rfl
  have u2 : (⟨#[46]⟩ : ByteArray).size = 1 := rfl
  have u3 : (⟨#[74]⟩ : ByteArray).size = 1 := rfl
  have u4 : (⟨#[47]⟩ : ByteArray).size = 1 := rfl
  obtain ⟨Y4, A4, e4, g4⟩ := add_ba ⟨#[47]⟩ S4 (by rw [u4]; decide) (by omega)
  have HH := Lib.hid (qk_held R.out)
  obtain ⟨X, A, e, g⟩ := add_ba ⟨#[74]⟩ S3 (by rw [u3]; decide) (by omega)
  have hx : X.data.toList = dyL r := by rw [e, l3]; unfold dyL; rw [if_pos k]
  have hxs : X.size ≤ 30 := by omega
  obtain ⟨Z, AZ, ez, gz⟩ := add_ba X Y4 (by omega) (by omega)
  have HF : Hid (Value.string Z = .string ⟨(ruL r).toArray⟩) := Lib.hid (str_is (by rw [ez, e4, hx, l4]; unfold ruL; rw [if_neg ht]; simp))
  have t4 := ne_yes ht
  clear ez
  have t1 : (r.K == 1) = true := eq_yes (by omega)
  have t3 : (r.K == 3) = false := eq_no (by omega)
  obtain ⟨K, M, W9, D, T⟩ := r
  simp only at D1 D2 D3 DC HH c0 c1 c2 c3 c4 t1 t3 t4
  clear L0 hr hk tm dl hS1 hS2 hS3 hS4 z1 z2 z3 z4 l1 l2 l3 l4 b1 b2 b3 b4 u1 u2 u3 u4 e4 hx k ht e
  go_enter Tryz.func25, Tryz.ntmps25
  go_upto_region 1 with fail
  rw [← hW0]; clear hW0
  go_wp2_with (first
    | (go_at_call 37; with_reducible refine (D3.out _).mono ?_; rintro e w1 ⟨rfl, hb⟩; obtain ⟨c0, c1, c2, c3, c4⟩ := (R.out.keep hb).all; have R := Lib.hid (R.out.keep hb); have B := Lib.hid (B.out.trans (hb.mono B.out.size)); clear hb)
    | (go_at_call 24; refine (DC.out _).mono ?_; rintro e w3 ⟨rfl, hb⟩; obtain ⟨c0, c1, c2, c3, c4⟩ := (R.out.keep hb).all; have R := Lib.hid (R.out.keep hb); have B := Lib.hid (B.out.trans (hb.mono B.out.size)); clear hb))
  go_ret
  exact ⟨ret1_eq HF.out, B.out⟩
set_option maxHeartbeats 4000000 in
theorem rput16_2u (r : Ru) (w : World) (hr : ruE r = 0) (k : r.K = 2) (ht : r.T = 7200) :
    Calls Tryz.prog 25 #[.agg r.cells] w fun e w' => e = .returned (.string ⟨(ruL r).toArray⟩) ∧ Below w.heap.size w w' := by
  obtain ⟨W0, hW0⟩ : ∃ W0, W0 = w.alloc (.cells r.cells 29) := ⟨_, rfl⟩
  have B : Hid (Below w.heap.size w W0) := Lib.hid (by rw [hW0]; exact bel16 w _)
  have L0 : Qk W0 w.heap.size r := by rw [hW0]; exact qk_new _ _
  obtain ⟨c0, c1, c2, c3, c4⟩ := L0.all
  have R := Lib.hid L0
  have hk := ruE_kinds hr
  have tm := (ruE_zero hr).2.2
  unfold tmP at tm
  have dl := dyL_len hr
  have D1 := Lib.hid (fun w => raw16_1 r.M w (by omega) (by omega))
  have D2 := Lib.hid (fun w => raw16_1 r.W w (by omega) (by omega))
  have D3 := Lib.hid (fun w => raw16_1 r.D w (by omega) (by omega))
  have DC := Lib.hid (fun w => rclock_any r.T w (by omega))
  obtain ⟨S1, hS1⟩ : ∃ S, S = (⟨(ptL r.M 1).toArray⟩ : ByteArray) := ⟨_, rfl⟩
  obtain ⟨S2, hS2⟩ : ∃ S, S = (⟨(ptL r.W 1).toArray⟩ : ByteArray) := ⟨_, rfl⟩
  obtain ⟨S3, hS3⟩ : ∃ S, S = (⟨(ptL r.D 1).toArray⟩ : ByteArray) := ⟨_, rfl⟩
  obtain ⟨S4, hS4⟩ : ∃ S, S = (⟨(ckL r.T).toArray⟩ : ByteArray) := ⟨_, rfl⟩
  rw [← hS1] at D1; rw [← hS2] at D2; rw [← hS3] at D3; rw [← hS4] at DC
  obtain ⟨z1, l1⟩ := ba_size hS1
  obtain ⟨z2, l2⟩ := ba_size hS2
  obtain ⟨z3, l3⟩ := ba_size hS3
  obtain ⟨z4, l4⟩ := ba_size hS4
  have b1 := ptL_len (n := r.M) (k := 1) (by omega) (by omega) (by omega)
  have b2 := ptL_len (n := r.W) (k := 1) (by omega) (by omega) (by omega)
  have b3 := ptL_len (n := r.D) (k := 1) (by omega) (by omega) (by omega)
  have b4 := ckL_len (t := r.T) (by omega)
  have b1' : S1.size ≤ 5 := by rw [z1]; exact b1
  have b2' : S2.size ≤ 5 := by rw [z2]; exact b2
  have b3' : S3.size ≤ 5 := by rw [z3]; exact b3
  have b4' : S4.size ≤ 10 := by rw [z4]; exact b4
  have u1 : (⟨#[77]⟩ : ByteArray).size = 1 := rfl
  have u2 : (⟨#[46]⟩ : ByteArray).size = 1 := rfl
  have u3 : (⟨#[74]⟩ : ByteArray).size = 1 := rfl
  have u4 : (⟨#[47]⟩ : ByteArray).size = 1 := rfl
  obtain ⟨Y4, A4, e4, g4⟩ := add_ba ⟨#[47]⟩ S4 (by rw [u4]; decide) (by omega)
  have HH := Lib.hid (qk_held R.out)
  have hx : S3.data.toList = dyL r := by rw [l3]; unfold dyL; rw [if_neg (by omega), if_pos k]
  have hxs : S3.size ≤ 30 := by omega
  have HF : Hid (Value.string S3 = .string ⟨(ruL r).toArray⟩) := Lib.hid (str_is (by rw [hx]; unfold ruL; rw [if_pos ht]))
  have t4 := ne_no ht
  have t1 : (r.K == 1) = false := eq_no (by omega)
  have t3 : (r.K == 3) = false := eq_no (by omega)
  obtain ⟨K, M, W9, D, T⟩ := r
  simp only at D1 D2 D3 DC HH c0 c1 c2 c3 c4 t1 t3 t4
  clear L0 hr hk tm dl hS1 hS2 hS3 hS4 z1 z2 z3 z4 l1 l2 l3 l4 b1 b2 b3 b4 u1 u2 u3 u4 e4 hx k ht
  go_enter Tryz.func25, Tryz.ntmps25
  go_upto_region 1 with fail
  rw [← hW0]; clear hW0
  go_wp2_with (first
    | (go_at_call 37; with_reducible refine (D3.out _).mono ?_; rintro e w1 ⟨rfl, hb⟩; obtain ⟨c0, c1, c2, c3, c4⟩ := (R.out.keep hb).all; have R := Lib.hid (R.out.keep hb); have B := Lib.hid (B.out.trans (hb.mono B.out.size)); clear hb)
    | (go_at_call 24; refine (DC.out _).mono ?_; rintro e w3 ⟨rfl, hb⟩; obtain ⟨c0, c1, c2, c3, c4⟩ := (R.out.keep hb).all; have R := Lib.hid (R.out.keep hb); have B := Lib.hid (B.out.trans (hb.mono B.out.size)); clear hb))
  go_ret
  exact ⟨ret1_eq HF.out, B.out⟩
set_option maxHeartbeats 4000000 in
theorem rput16_2t (r : Ru) (w : World) (hr : ruE r = 0) (k : r.K = 2) (ht : r.T ≠ 7200) :
    Calls Tryz.prog 25 #[.agg r.cells] w fun e w' => e = .returned (.string ⟨(ruL r).toArray⟩) ∧ Below w.heap.size w w' := by
  obtain ⟨W0, hW0⟩ : ∃ W0, W0 = w.alloc (.cells r.cells 29) := ⟨_, rfl⟩
  have B : Hid (Below w.heap.size w W0) := Lib.hid (by rw [hW0]; exact bel16 w _)
  have L0 : Qk W0 w.heap.size r := by rw [hW0]; exact qk_new _ _
  obtain ⟨c0, c1, c2, c3, c4⟩ := L0.all
  have R := Lib.hid L0
  have hk := ruE_kinds hr
  have tm := (ruE_zero hr).2.2
  unfold tmP at tm
  have dl := dyL_len hr
  have D1 := Lib.hid (fun w => raw16_1 r.M w (by omega) (by omega))
  have D2 := Lib.hid (fun w => raw16_1 r.W w (by omega) (by omega))
  have D3 := Lib.hid (fun w => raw16_1 r.D w (by omega) (by omega))
  have DC := Lib.hid (fun w => rclock_any r.T w (by omega))
  obtain ⟨S1, hS1⟩ : ∃ S, S = (⟨(ptL r.M 1).toArray⟩ : ByteArray) := ⟨_, rfl⟩
  obtain ⟨S2, hS2⟩ : ∃ S, S = (⟨(ptL r.W 1).toArray⟩ : ByteArray) := ⟨_, rfl⟩
  obtain ⟨S3, hS3⟩ : ∃ S, S = (⟨(ptL r.D 1).toArray⟩ : ByteArray) := ⟨_, rfl⟩
  obtain ⟨S4, hS4⟩ : ∃ S, S = (⟨(ckL r.T).toArray⟩ : ByteArray) := ⟨_, rfl⟩
  rw [← hS1] at D1; rw [← hS2] at D2; rw [← hS3] at D3; rw [← hS4] at DC
  obtain ⟨z1, l1⟩ := ba_size hS1
  obtain ⟨z2, l2⟩ := ba_size hS2
  obtain ⟨z3, l3⟩ := ba_size hS3
  obtain ⟨z4, l4⟩ := ba_size hS4
  have b1 := ptL_len (n := r.M) (k := 1) (by omega) (by omega) (by omega)
  have b2 := ptL_len (n := r.W) (k := 1) (by omega) (by omega) (by omega)
  have b3 := ptL_len (n := r.D) (k := 1) (by omega) (by omega) (by omega)
  have b4 := ckL_len (t := r.T) (by omega)
  have b1' : S1.size ≤ 5 := by rw [z1]; exact b1
  have b2' : S2.size ≤ 5 := by rw [z2]; exact b2
  have b3' : S3.size ≤ 5 := by rw [z3]; exact b3
  have b4' : S4.size ≤ 10 := by rw [z4]; exact b4
  have u1 : (⟨#[77]⟩ : ByteArray).size = 1 := rfl
  have u2 : (⟨#[46]⟩ : ByteArray).size = 1 := rfl
  have u3 : (⟨#[74]⟩ : ByteArray).size = 1 := rfl
  have u4 : (⟨#[47]⟩ : ByteArray).size = 1 := rfl
  obtain ⟨Y4, A4, e4, g4⟩ := add_ba ⟨#[47]⟩ S4 (by rw [u4]; decide) (by omega)
  have HH := Lib.hid (qk_held R.out)
  have hx : S3.data.toList = dyL r := by rw [l3]; unfold dyL; rw [if_neg (by omega), if_pos k]
  have hxs : S3.size ≤ 30 := by omega
  obtain ⟨Z, AZ, ez, gz⟩ := add_ba S3 Y4 (by omega) (by omega)
  have HF : Hid (Value.string Z = .string ⟨(ruL r).toArray⟩) := Lib.hid (str_is (by rw [ez, e4, hx, l4]; unfold ruL; rw [if_neg ht]; simp))
  have t4 := ne_yes ht
  clear ez
  have t1 : (r.K == 1) = false := eq_no (by omega)
  have t3 : (r.K == 3) = false := eq_no (by omega)
  obtain ⟨K, M, W9, D, T⟩ := r
  simp only at D1 D2 D3 DC HH c0 c1 c2 c3 c4 t1 t3 t4
  clear L0 hr hk tm dl hS1 hS2 hS3 hS4 z1 z2 z3 z4 l1 l2 l3 l4 b1 b2 b3 b4 u1 u2 u3 u4 e4 hx k ht
  go_enter Tryz.func25, Tryz.ntmps25
  go_upto_region 1 with fail
  rw [← hW0]; clear hW0
  go_wp2_with (first
    | (go_at_call 37; with_reducible refine (D3.out _).mono ?_; rintro e w1 ⟨rfl, hb⟩; obtain ⟨c0, c1, c2, c3, c4⟩ := (R.out.keep hb).all; have R := Lib.hid (R.out.keep hb); have B := Lib.hid (B.out.trans (hb.mono B.out.size)); clear hb)
    | (go_at_call 24; refine (DC.out _).mono ?_; rintro e w3 ⟨rfl, hb⟩; obtain ⟨c0, c1, c2, c3, c4⟩ := (R.out.keep hb).all; have R := Lib.hid (R.out.keep hb); have B := Lib.hid (B.out.trans (hb.mono B.out.size)); clear hb))
  go_ret
  exact ⟨ret1_eq HF.out, B.out⟩
set_option maxHeartbeats 4000000 in
theorem rput16_3u (r : Ru) (w : World) (hr : ruE r = 0) (k : r.K = 3) (ht : r.T = 7200) :
    Calls Tryz.prog 25 #[.agg r.cells] w fun e w' => e = .returned (.string ⟨(ruL r).toArray⟩) ∧ Below w.heap.size w w' := by
  obtain ⟨W0, hW0⟩ : ∃ W0, W0 = w.alloc (.cells r.cells 29) := ⟨_, rfl⟩
  have B : Hid (Below w.heap.size w W0) := Lib.hid (by rw [hW0]; exact bel16 w _)
  have L0 : Qk W0 w.heap.size r := by rw [hW0]; exact qk_new _ _
  obtain ⟨c0, c1, c2, c3, c4⟩ := L0.all
  have R := Lib.hid L0
  have hk := ruE_kinds hr
  have tm := (ruE_zero hr).2.2
  unfold tmP at tm
  have dl := dyL_len hr
  have D1 := Lib.hid (fun w => raw16_1 r.M w (by omega) (by omega))
  have D2 := Lib.hid (fun w => raw16_1 r.W w (by omega) (by omega))
  have D3 := Lib.hid (fun w => raw16_1 r.D w (by omega) (by omega))
  have DC := Lib.hid (fun w => rclock_any r.T w (by omega))
  obtain ⟨S1, hS1⟩ : ∃ S, S = (⟨(ptL r.M 1).toArray⟩ : ByteArray) := ⟨_, rfl⟩
  obtain ⟨S2, hS2⟩ : ∃ S, S = (⟨(ptL r.W 1).toArray⟩ : ByteArray) := ⟨_, rfl⟩
  obtain ⟨S3, hS3⟩ : ∃ S, S = (⟨(ptL r.D 1).toArray⟩ : ByteArray) := ⟨_, rfl⟩
  obtain ⟨S4, hS4⟩ : ∃ S, S = (⟨(ckL r.T).toArray⟩ : ByteArray) := ⟨_, rfl⟩
  rw [← hS1] at D1; rw [← hS2] at D2; rw [← hS3] at D3; rw [← hS4] at DC
  obtain ⟨z1, l1⟩ := ba_size hS1
  obtain ⟨z2, l2⟩ := ba_size hS2
  obtain ⟨z3, l3⟩ := ba_size hS3
  obtain ⟨z4, l4⟩ := ba_size hS4
  have b1 := ptL_len (n := r.M) (k := 1) (by omega) (by omega) (by omega)
  have b2 := ptL_len (n := r.W) (k := 1) (by omega) (by omega) (by omega)
  have b3 := ptL_len (n := r.D) (k := 1) (by omega) (by omega) (by omega)
  have b4 := ckL_len (t := r.T) (by omega)
  have b1' : S1.size ≤ 5 := by rw [z1]; exact b1
  have b2' : S2.size ≤ 5 := by rw [z2]; exact b2
  have b3' : S3.size ≤ 5 := by rw [z3]; exact b3
  have b4' : S4.size ≤ 10 := by rw [z4]; exact b4
  have u1 : (⟨#[77]⟩ : ByteArray).size = 1 := rfl
  have u2 : (⟨#[46]⟩ : ByteArray).size = 1 := rfl
  have u3 : (⟨#[74]⟩ : ByteArray).size = 1 := rfl
  have u4 : (⟨#[47]⟩ : ByteArray).size = 1 := rfl
  obtain ⟨Y4, A4, e4, g4⟩ := add_ba ⟨#[47]⟩ S4 (by rw [u4]; decide) (by omega)
  have HH := Lib.hid (qk_held R.out)
  obtain ⟨X1, A1, e1, g1⟩ := add_ba ⟨#[77]⟩ S1 (by rw [u1]; decide) (by omega)
  obtain ⟨X2, A2, e2, g2⟩ := add_ba X1 ⟨#[46]⟩ (by omega) (by rw [u2]; decide)
  obtain ⟨X3, A3, e3, g3⟩ := add_ba X2 S2 (by omega) (by omega)
  obtain ⟨X4, A5, e5, g5⟩ := add_ba X3 ⟨#[46]⟩ (by omega) (by rw [u2]; decide)
  obtain ⟨X5, A6, e6, g6⟩ := add_ba X4 S3 (by omega) (by omega)
  have hx : X5.data.toList = dyL r := by rw [e6, e5, e3, e2, e1, l1, l2, l3]; unfold dyL; rw [if_neg (by omega), if_neg (by omega)]
  have hxs : X5.size ≤ 30 := by omega
  clear e1 e2 e3 e5 e6
  have HF : Hid (Value.string X5 = .string ⟨(ruL r).toArray⟩) := Lib.hid (str_is (by rw [hx]; unfold ruL; rw [if_pos ht]))
  have t4 := ne_no ht
  have t1 : (r.K == 1) = false := eq_no (by omega)
  have t3 : (r.K == 3) = true := eq_yes (by omega)
  obtain ⟨K, M, W9, D, T⟩ := r
  simp only at D1 D2 D3 DC HH c0 c1 c2 c3 c4 t1 t3 t4
  clear L0 hr hk tm dl hS1 hS2 hS3 hS4 z1 z2 z3 z4 l1 l2 l3 l4 b1 b2 b3 b4 u1 u2 u3 u4 e4 hx k ht
  go_enter Tryz.func25, Tryz.ntmps25
  go_upto_region 1 with fail
  rw [← hW0]; clear hW0
  go_upto_region 5 with (go_at_call 37; with_reducible refine (D3.out _).mono ?_; rintro e w1 ⟨rfl, hb⟩; obtain ⟨c0, c1, c2, c3, c4⟩ := (R.out.keep hb).all; have R := Lib.hid (R.out.keep hb); have B := Lib.hid (B.out.trans (hb.mono B.out.size)); clear hb)
  have HQ := Lib.hid (qk_held R.out)
  have hKD : Kq16 w1 w1.drew := ⟨(Below.refl _ w1).drew⟩
  go_region_held3 (fun W => (W.cell? ⟨w.heap.size, 0, none⟩ = some (.int .i64 K) ∧ W.cell? ⟨w.heap.size, 1, none⟩ = some (.int .i64 M) ∧ W.cell? ⟨w.heap.size, 2, none⟩ = some (.int .i64 W9) ∧ W.cell? ⟨w.heap.size, 3, none⟩ = some (.int .i64 D) ∧ W.cell? ⟨w.heap.size, 4, none⟩ = some (.int .i64 T)) ∧ Kq16 w1 W)
    (exact HQ.out _ (by assumption))
    (first
      | (go_at_call 37; go_split_ands; (with_reducible refine (D1.out _).mono ?_); rintro er wr9 ⟨rfl, hq⟩; have hkr : Kq16 w1 wr9 := Kq16.step (by assumption) hq; clear hq)
      | (go_at_call 37; go_split_ands; (with_reducible refine (D2.out _).mono ?_); rintro er wr9 ⟨rfl, hq⟩; have hkr : Kq16 w1 wr9 := Kq16.step (by assumption) hq; clear hq))
  have Q1 : Hid (Kq16 w1 _) := Lib.hid (by assumption)
  have R5 := R.out.keep Q1.out.bel
  have B5 := B.out.trans (Q1.out.bel.mono B.out.size)
  replace R := Lib.hid R5
  replace B := Lib.hid B5
  clear R5 B5 hKD Q1 c0 c1 c2 c3 c4 HQ
  obtain ⟨c0, c1, c2, c3, c4⟩ := R.out.all
  go_wp2_with (go_at_call 24; refine (DC.out _).mono ?_; rintro e w3 ⟨rfl, hb⟩; obtain ⟨c0, c1, c2, c3, c4⟩ := (R.out.keep hb).all; have R := Lib.hid (R.out.keep hb); have B := Lib.hid (B.out.trans (hb.mono B.out.size)); clear hb)
  go_ret
  exact ⟨ret1_eq HF.out, B.out⟩
set_option maxHeartbeats 4000000 in
theorem rput16_3t (r : Ru) (w : World) (hr : ruE r = 0) (k : r.K = 3) (ht : r.T ≠ 7200) :
    Calls Tryz.prog 25 #[.agg r.cells] w fun e w' => e = .returned (.string ⟨(ruL r).toArray⟩) ∧ Below w.heap.size w w' := by
  obtain ⟨W0, hW0⟩ : ∃ W0, W0 = w.alloc (.cells r.cells 29) := ⟨_, rfl⟩
  have B : Hid (Below w.heap.size w W0) := Lib.hid (by rw [hW0]; exact bel16 w _)
  have L0 : Qk W0 w.heap.size r := by rw [hW0]; exact qk_new _ _
  obtain ⟨c0, c1, c2, c3, c4⟩ := L0.all
  have R := Lib.hid L0
  have hk := ruE_kinds hr
  have tm := (ruE_zero hr).2.2
  unfold tmP at tm
  have dl := dyL_len hr
  have D1 := Lib.hid (fun w => raw16_1 r.M w (by omega) (by omega))
  have D2 := Lib.hid (fun w => raw16_1 r.W w (by omega) (by omega))
  have D3 := Lib.hid (fun w => raw16_1 r.D w (by omega) (by omega))
  have DC := Lib.hid (fun w => rclock_any r.T w (by omega))
  obtain ⟨S1, hS1⟩ : ∃ S, S = (⟨(ptL r.M 1).toArray⟩ : ByteArray) := ⟨_, rfl⟩
  obtain ⟨S2, hS2⟩ : ∃ S, S = (⟨(ptL r.W 1).toArray⟩ : ByteArray) := ⟨_, rfl⟩
  obtain ⟨S3, hS3⟩ : ∃ S, S = (⟨(ptL r.D 1).toArray⟩ : ByteArray) := ⟨_, rfl⟩
  obtain ⟨S4, hS4⟩ : ∃ S, S = (⟨(ckL r.T).toArray⟩ : ByteArray) := ⟨_, rfl⟩
  rw [← hS1] at D1; rw [← hS2] at D2; rw [← hS3] at D3; rw [← hS4] at DC
  obtain ⟨z1, l1⟩ := ba_size hS1
  obtain ⟨z2, l2⟩ := ba_size hS2
  obtain ⟨z3, l3⟩ := ba_size hS3
  obtain ⟨z4, l4⟩ := ba_size hS4
  have b1 := ptL_len (n := r.M) (k := 1) (by omega) (by omega) (by omega)
  have b2 := ptL_len (n := r.W) (k := 1) (by omega) (by omega) (by omega)
  have b3 := ptL_len (n := r.D) (k := 1) (by omega) (by omega) (by omega)
  have b4 := ckL_len (t := r.T) (by omega)
  have b1' : S1.size ≤ 5 := by rw [z1]; exact b1
  have b2' : S2.size ≤ 5 := by rw [z2]; exact b2
  have b3' : S3.size ≤ 5 := by rw [z3]; exact b3
  have b4' : S4.size ≤ 10 := by rw [z4]; exact b4
  have u1 : (⟨#[77]⟩ : ByteArray).size = 1 := rfl
  have u2 : (⟨#[46]⟩ : ByteArray).size = 1 := rfl
  have u3 : (⟨#[74]⟩ : ByteArray).size = 1 := rfl
  have u4 : (⟨#[47]⟩ : ByteArray).size = 1 := rfl
  obtain ⟨Y4, A4, e4, g4⟩ := add_ba ⟨#[47]⟩ S4 (by rw [u4]; decide) (by omega)
  have HH := Lib.hid (qk_held R.out)
  obtain ⟨X1, A1, e1, g1⟩ := add_ba ⟨#[77]⟩ S1 (by rw [u1]; decide) (by omega)
  obtain ⟨X2, A2, e2, g2⟩ := add_ba X1 ⟨#[46]⟩ (by omega) (by rw [u2]; decide)
  obtain ⟨X3, A3, e3, g3⟩ := add_ba X2 S2 (by omega) (by omega)
  obtain ⟨X4, A5, e5, g5⟩ := add_ba X3 ⟨#[46]⟩ (by omega) (by rw [u2]; decide)
  obtain ⟨X5, A6, e6, g6⟩ := add_ba X4 S3 (by omega) (by omega)
  have hx : X5.data.toList = dyL r := by rw [e6, e5, e3, e2, e1, l1, l2, l3]; unfold dyL; rw [if_neg (by omega), if_neg (by omega)]
  have hxs : X5.size ≤ 30 := by omega
  clear e1 e2 e3 e5 e6
  obtain ⟨Z, AZ, ez, gz⟩ := add_ba X5 Y4 (by omega) (by omega)
  have HF : Hid (Value.string Z = .string ⟨(ruL r).toArray⟩) := Lib.hid (str_is (by rw [ez, e4, hx, l4]; unfold ruL; rw [if_neg ht]; simp))
  have t4 := ne_yes ht
  clear ez
  have t1 : (r.K == 1) = false := eq_no (by omega)
  have t3 : (r.K == 3) = true := eq_yes (by omega)
  obtain ⟨K, M, W9, D, T⟩ := r
  simp only at D1 D2 D3 DC HH c0 c1 c2 c3 c4 t1 t3 t4
  clear L0 hr hk tm dl hS1 hS2 hS3 hS4 z1 z2 z3 z4 l1 l2 l3 l4 b1 b2 b3 b4 u1 u2 u3 u4 e4 hx k ht
  go_enter Tryz.func25, Tryz.ntmps25
  go_upto_region 1 with fail
  rw [← hW0]; clear hW0
  go_upto_region 5 with (go_at_call 37; with_reducible refine (D3.out _).mono ?_; rintro e w1 ⟨rfl, hb⟩; obtain ⟨c0, c1, c2, c3, c4⟩ := (R.out.keep hb).all; have R := Lib.hid (R.out.keep hb); have B := Lib.hid (B.out.trans (hb.mono B.out.size)); clear hb)
  have HQ := Lib.hid (qk_held R.out)
  have hKD : Kq16 w1 w1.drew := ⟨(Below.refl _ w1).drew⟩
  go_region_held3 (fun W => (W.cell? ⟨w.heap.size, 0, none⟩ = some (.int .i64 K) ∧ W.cell? ⟨w.heap.size, 1, none⟩ = some (.int .i64 M) ∧ W.cell? ⟨w.heap.size, 2, none⟩ = some (.int .i64 W9) ∧ W.cell? ⟨w.heap.size, 3, none⟩ = some (.int .i64 D) ∧ W.cell? ⟨w.heap.size, 4, none⟩ = some (.int .i64 T)) ∧ Kq16 w1 W)
    (exact HQ.out _ (by assumption))
    (first
      | (go_at_call 37; go_split_ands; (with_reducible refine (D1.out _).mono ?_); rintro er wr9 ⟨rfl, hq⟩; have hkr : Kq16 w1 wr9 := Kq16.step (by assumption) hq; clear hq)
      | (go_at_call 37; go_split_ands; (with_reducible refine (D2.out _).mono ?_); rintro er wr9 ⟨rfl, hq⟩; have hkr : Kq16 w1 wr9 := Kq16.step (by assumption) hq; clear hq))
  have Q1 : Hid (Kq16 w1 _) := Lib.hid (by assumption)
  have R5 := R.out.keep Q1.out.bel
  have B5 := B.out.trans (Q1.out.bel.mono B.out.size)
  replace R := Lib.hid R5
  replace B := Lib.hid B5
  clear R5 B5 hKD Q1 c0 c1 c2 c3 c4 HQ
  obtain ⟨c0, c1, c2, c3, c4⟩ := R.out.all
  go_wp2_with (go_at_call 24; refine (DC.out _).mono ?_; rintro e w3 ⟨rfl, hb⟩; obtain ⟨c0, c1, c2, c3, c4⟩ := (R.out.keep hb).all; have R := Lib.hid (R.out.keep hb); have B := Lib.hid (B.out.trans (hb.mono B.out.size)); clear hb)
  go_ret
  exact ⟨ret1_eq HF.out, B.out⟩

theorem rputd_any (r : Ru) (w : World) (hr : ruE r = 0) :
    Calls Tryz.prog 25 #[.agg r.cells] w fun e w' => e = .returned (.string ⟨(ruL r).toArray⟩) ∧ Below w.heap.size w w' := by
  rcases ruE_kinds hr with h | h | h <;> by_cases ht : r.T = 7200
  · exact rput16_1u r w hr h.1 ht
  · exact rput16_1t r w hr h.1 ht
  · exact rput16_2u r w hr h.1 ht
  · exact rput16_2t r w hr h.1 ht
  · exact rput16_3u r w hr h.1 ht
  · exact rput16_3t r w hr h.1 ht
end Go.Proofs.YtkhcneacjnpcnaaGreatDoor
