/- Merged: GpsF. -/
import Derived.Test.YtjbbnlcghnjlfaaGGpsTexts29
import Derived.Test.YtjbbnlcghnjlfaaGGpsTexts42
import Derived.Test.YtjbbnlcghnjlfaaGGpsTexts47
namespace Go.Proofs.Ytjbbnlcghnjlfaa
open Go.RowKit
set_option linter.unusedVariables false
set_option linter.unusedSimpArgs false

set_option maxRecDepth 100000 in
set_option maxHeartbeats 2000000 in
theorem rgp_few_n (s X Y Z : ByteArray) (K J : Nat) (w : World) (hs : X.size ≤ 100) (hk : K ≤ X.size) (hss : s.size ≤ 101) (hp : 0 < s.size) (h45 : ((s[0].toNat : Int) == 45) = true) (hex : s.extract 1 s.size = X)
    (HM : Hid (∀ w, Calls Try.prog 32 #[.string X] w fun e w' => e = .returned (.int .i64 K) ∧ w = w')) (c1 : K < 4) :
    Calls Try.prog 13 #[.string s] w fun e w' => e = .returned (.tuple #[.int .i64 0, .int .i64 2]) ∧ Below w.heap.size w w' := by
  have hps : (s.size : Int) > 0 := by omega
  have r7 : IntKind.i64.wrap ((K : Int) + 7) = (K : Int) + 7 := IntWalk.i64_in _ (by omega)
  have r1 : IntKind.i64.wrap ((K : Int) + 1) = (K : Int) + 1 := IntWalk.i64_in _ (by omega)
  have t1 : decide ((K : Int) < 4) = true := decide_eq_true (by omega)
  clear c1
  go_enter Try.func13, Try.ntmps13
  go_wp2_with first
    | (go_at_call 32; refine (HM.out _).mono ?_; rintro e w' ⟨rfl, rfl⟩)
  go_ret2
  exact ⟨rfl, Below.refl _ _⟩
set_option maxRecDepth 100000 in
set_option maxHeartbeats 2000000 in
theorem rgp_zero_n (s X Y Z : ByteArray) (K J : Nat) (w : World) (hs : X.size ≤ 100) (hk : K ≤ X.size) (hss : s.size ≤ 101) (hp : 0 < s.size) (h45 : ((s[0].toNat : Int) == 45) = true) (hex : s.extract 1 s.size = X)
    (HM : Hid (∀ w, Calls Try.prog 32 #[.string X] w fun e w' => e = .returned (.int .i64 K) ∧ w = w')) (c1 : 4 < K) (hx : 0 < X.size) (h48 : ((X[0].toNat : Int) == 48) = true) :
    Calls Try.prog 13 #[.string s] w fun e w' => e = .returned (.tuple #[.int .i64 0, .int .i64 2]) ∧ Below w.heap.size w w' := by
  have hps : (s.size : Int) > 0 := by omega
  have r7 : IntKind.i64.wrap ((K : Int) + 7) = (K : Int) + 7 := IntWalk.i64_in _ (by omega)
  have r1 : IntKind.i64.wrap ((K : Int) + 1) = (K : Int) + 1 := IntWalk.i64_in _ (by omega)
  have t1 : decide ((K : Int) < 4) = false := decide_eq_false (by omega)
  have t2 : decide (4 < (K : Int)) = true := decide_eq_true (by omega)
  clear c1
  go_enter Try.func13, Try.ntmps13
  go_wp2_with first
    | (go_at_call 32; refine (HM.out _).mono ?_; rintro e w' ⟨rfl, rfl⟩)
  go_ret2
  exact ⟨rfl, Below.refl _ _⟩
set_option maxRecDepth 100000 in
set_option maxHeartbeats 2000000 in
theorem rgp_len_four_n (s X Y Z : ByteArray) (K J : Nat) (w : World) (hs : X.size ≤ 100) (hk : K ≤ X.size) (hss : s.size ≤ 101) (hp : 0 < s.size) (h45 : ((s[0].toNat : Int) == 45) = true) (hex : s.extract 1 s.size = X)
    (HM : Hid (∀ w, Calls Try.prog 32 #[.string X] w fun e w' => e = .returned (.int .i64 K) ∧ w = w')) (c1 : K = 4) (c3 : X.size ≠ K + 7) :
    Calls Try.prog 13 #[.string s] w fun e w' => e = .returned (.tuple #[.int .i64 0, .int .i64 2]) ∧ Below w.heap.size w w' := by
  have hps : (s.size : Int) > 0 := by omega
  have r7 : IntKind.i64.wrap ((K : Int) + 7) = (K : Int) + 7 := IntWalk.i64_in _ (by omega)
  have r1 : IntKind.i64.wrap ((K : Int) + 1) = (K : Int) + 1 := IntWalk.i64_in _ (by omega)
  have t1 : decide ((K : Int) < 4) = false := decide_eq_false (by omega)
  have t2 : decide (4 < (K : Int)) = false := decide_eq_false (by omega)
  have t3 : ((X.size : Int) != (K : Int) + 7) = true := bne_iff_ne.2 (by omega)
  clear c1 c3
  go_enter Try.func13, Try.ntmps13
  go_wp2_with first
    | (go_at_call 32; refine (HM.out _).mono ?_; rintro e w' ⟨rfl, rfl⟩)
  go_ret2
  exact ⟨rfl, Below.refl _ _⟩
set_option maxRecDepth 100000 in
set_option maxHeartbeats 2000000 in
theorem rgp_mark_four_n (s X Y Z : ByteArray) (K J : Nat) (w : World) (hs : X.size ≤ 100) (hk : K ≤ X.size) (hss : s.size ≤ 101) (hp : 0 < s.size) (h45 : ((s[0].toNat : Int) == 45) = true) (hex : s.extract 1 s.size = X)
    (HM : Hid (∀ w, Calls Try.prog 32 #[.string X] w fun e w' => e = .returned (.int .i64 K) ∧ w = w')) (c1 : K = 4) (c3 : X.size = K + 7) (hxk : K < X.size) (h58 : ((X[K].toNat : Int) != 58) = true) :
    Calls Try.prog 13 #[.string s] w fun e w' => e = .returned (.tuple #[.int .i64 0, .int .i64 2]) ∧ Below w.heap.size w w' := by
  have hps : (s.size : Int) > 0 := by omega
  have r7 : IntKind.i64.wrap ((K : Int) + 7) = (K : Int) + 7 := IntWalk.i64_in _ (by omega)
  have r1 : IntKind.i64.wrap ((K : Int) + 1) = (K : Int) + 1 := IntWalk.i64_in _ (by omega)
  have t1 : decide ((K : Int) < 4) = false := decide_eq_false (by omega)
  have t2 : decide (4 < (K : Int)) = false := decide_eq_false (by omega)
  have t3 : ((X.size : Int) != (K : Int) + 7) = false := by rw [bne_eq_false_iff_eq]; omega
  clear c1 c3
  go_enter Try.func13, Try.ntmps13
  go_wp2_with first
    | (go_at_call 32; refine (HM.out _).mono ?_; rintro e w' ⟨rfl, rfl⟩)
  go_ret2
  exact ⟨rfl, Below.refl _ _⟩
set_option maxRecDepth 100000 in
set_option maxHeartbeats 2000000 in
theorem rgp_rest_four_n (s X Y Z : ByteArray) (K J : Nat) (w : World) (hs : X.size ≤ 100) (hk : K ≤ X.size) (hss : s.size ≤ 101) (hp : 0 < s.size) (h45 : ((s[0].toNat : Int) == 45) = true) (hex : s.extract 1 s.size = X)
    (HM : Hid (∀ w, Calls Try.prog 32 #[.string X] w fun e w' => e = .returned (.int .i64 K) ∧ w = w')) (c1 : K = 4) (c3 : X.size = K + 7) (hxk : K < X.size) (h58 : ((X[K].toNat : Int) != 58) = false) (hey : X.extract (K + 1) X.size = Y) (c6 : J ≠ 6)
    (HJ : Hid (∀ w, Calls Try.prog 32 #[.string Y] w fun e w' => e = .returned (.int .i64 J) ∧ w = w')) :
    Calls Try.prog 13 #[.string s] w fun e w' => e = .returned (.tuple #[.int .i64 0, .int .i64 2]) ∧ Below w.heap.size w w' := by
  have hps : (s.size : Int) > 0 := by omega
  have r7 : IntKind.i64.wrap ((K : Int) + 7) = (K : Int) + 7 := IntWalk.i64_in _ (by omega)
  have r1 : IntKind.i64.wrap ((K : Int) + 1) = (K : Int) + 1 := IntWalk.i64_in _ (by omega)
  have t1 : decide ((K : Int) < 4) = false := decide_eq_false (by omega)
  have t2 : decide (4 < (K : Int)) = false := decide_eq_false (by omega)
  have t3 : ((X.size : Int) != (K : Int) + 7) = false := by rw [bne_eq_false_iff_eq]; omega
  have hk1 : K + 1 ≤ X.size := hxk
  have t6 : ((J : Int) != 6) = true := bne_iff_ne.2 (by omega)
  clear c1 c3 c6
  go_enter Try.func13, Try.ntmps13
  go_wp2_with first
    | (go_at_call 32; (with_reducible refine (HM.out _).mono ?_); rintro e w' ⟨rfl, rfl⟩)
    | (go_at_call 32; (with_reducible refine (HJ.out _).mono ?_); rintro e w' ⟨rfl, rfl⟩)
  go_ret2
  exact ⟨rfl, Below.refl _ _⟩
set_option maxRecDepth 100000 in
set_option maxHeartbeats 2000000 in
theorem rgp_nought (s X Y Z : ByteArray) (K J : Nat) (w : World) (hs : X.size ≤ 100) (hk : K ≤ X.size) (hss : s.size ≤ 101) (hp : 0 < s.size) (h45 : ((s[0].toNat : Int) == 45) = true) (hex : s.extract 1 s.size = X)
    (HM : Hid (∀ w, Calls Try.prog 32 #[.string X] w fun e w' => e = .returned (.int .i64 K) ∧ w = w')) (c1 : K = 4) (c3 : X.size = K + 7) (hxk : K < X.size) (h58 : ((X[K].toNat : Int) != 58) = false) (hey : X.extract (K + 1) X.size = Y) (c6 : J = 6) (hez : X.extract 0 K = Z) (h0 : (Z.toList == [48, 48, 48, 48]) = true)
    (HJ : Hid (∀ w, Calls Try.prog 32 #[.string Y] w fun e w' => e = .returned (.int .i64 J) ∧ w = w')) :
    Calls Try.prog 13 #[.string s] w fun e w' => e = .returned (.tuple #[.int .i64 0, .int .i64 2]) ∧ Below w.heap.size w w' := by
  have hps : (s.size : Int) > 0 := by omega
  have r7 : IntKind.i64.wrap ((K : Int) + 7) = (K : Int) + 7 := IntWalk.i64_in _ (by omega)
  have r1 : IntKind.i64.wrap ((K : Int) + 1) = (K : Int) + 1 := IntWalk.i64_in _ (by omega)
  have t1 : decide ((K : Int) < 4) = false := decide_eq_false (by omega)
  have t2 : decide (4 < (K : Int)) = false := decide_eq_false (by omega)
  have t3 : ((X.size : Int) != (K : Int) + 7) = false := by rw [bne_eq_false_iff_eq]; omega
  have hk1 : K + 1 ≤ X.size := hxk
  have t6 : ((J : Int) != 6) = false := by rw [bne_eq_false_iff_eq]; omega
  clear c1 c3 c6
  go_enter Try.func13, Try.ntmps13
  go_wp2_with first
    | (go_at_call 32; (with_reducible refine (HM.out _).mono ?_); rintro e w' ⟨rfl, rfl⟩)
    | (go_at_call 32; (with_reducible refine (HJ.out _).mono ?_); rintro e w' ⟨rfl, rfl⟩)
  go_ret2
  exact ⟨rfl, Below.refl _ _⟩
set_option maxRecDepth 100000 in
set_option maxHeartbeats 2000000 in
theorem rgp_over_four_n (s X Y Z : ByteArray) (K J : Nat) (w : World) (hs : X.size ≤ 100) (hk : K ≤ X.size) (hss : s.size ≤ 101) (hp : 0 < s.size) (h45 : ((s[0].toNat : Int) == 45) = true) (hex : s.extract 1 s.size = X)
    (HM : Hid (∀ w, Calls Try.prog 32 #[.string X] w fun e w' => e = .returned (.int .i64 K) ∧ w = w')) (c1 : K = 4) (c3 : X.size = K + 7) (hxk : K < X.size) (h58 : ((X[K].toNat : Int) != 58) = false) (hey : X.extract (K + 1) X.size = Y) (c6 : J = 6) (hez : X.extract 0 K = Z) (h0 : (Z.toList == [48, 48, 48, 48]) = false) (D : Int) (kk : Nat) (hkk : kk ≤ 1000)
    (HJ : Hid (∀ w, Calls Try.prog 32 #[.string Y] w fun e w' => e = .returned (.int .i64 J) ∧ w = w'))
    (HB : Hid (∀ w, Calls Try.prog 33 #[.string Z] w fun e w' => ∃ v, e = .returned v ∧ BV w' v D kk ∧ Below w.heap.size w w'))
    (HS : Hid (∀ v w, BV w v (-D) kk → Calls Try.prog 19 #[v] w fun e w' => e = .returned (.tuple #[.int .i64 0, .int .i64 5]) ∧ Below w.heap.size w w')) :
    Calls Try.prog 13 #[.string s] w fun e w' => e = .returned (.tuple #[.int .i64 0, .int .i64 5]) ∧ Below w.heap.size w w' := by
  have hps : (s.size : Int) > 0 := by omega
  have r7 : IntKind.i64.wrap ((K : Int) + 7) = (K : Int) + 7 := IntWalk.i64_in _ (by omega)
  have r1 : IntKind.i64.wrap ((K : Int) + 1) = (K : Int) + 1 := IntWalk.i64_in _ (by omega)
  have t1 : decide ((K : Int) < 4) = false := decide_eq_false (by omega)
  have t2 : decide (4 < (K : Int)) = false := decide_eq_false (by omega)
  have t3 : ((X.size : Int) != (K : Int) + 7) = false := by rw [bne_eq_false_iff_eq]; omega
  have hk1 : K + 1 ≤ X.size := hxk
  have t6 : ((J : Int) != 6) = false := by rw [bne_eq_false_iff_eq]; omega
  have HMi := Lib.hid (fun v w h => minus_big v D kk w h hkk)
  clear c1 c3 c6 hkk
  go_enter Try.func13, Try.ntmps13
  go_upto_region 12 with first
    | (go_at_call 32; (with_reducible refine (HM.out _).mono ?_); rintro e w' ⟨rfl, rfl⟩)
    | (go_at_call 32; (with_reducible refine (HJ.out _).mono ?_); rintro e w' ⟨rfl, rfl⟩)
    | (go_at_call 33; refine (HB.out _).mono ?_; rintro e w1 ⟨v1, rfl, b1, hb⟩; obtain ⟨s1, A1, n1, c1, rfl⟩ := b1.open_; have V1 := Lib.hid b1; have B := Lib.hid hb; clear b1 hb)
  have X1 := Bx.new V1.out
  have hb := bel_al w1 #[.bool s1, .slice A1 n1 c1] 50
  have hg := Lib.hid B.out.size
  replace B := Lib.hid (B.out.trans (hb.mono B.out.size))
  clear hb V1
  generalize World.alloc w1 _ = W2 at *
  replace X1 := Lib.hid X1
  obtain ⟨g, hgd⟩ : ∃ g, g = w1.heap.size := ⟨_, rfl⟩
  rw [← hgd] at hg X1 ⊢
  clear hgd w1
  obtain ⟨y0, Y0, n0, m0, k0, k1, f0, f1, VN⟩ := X1.out.cells
  replace VN := Lib.hid VN
  go_upto_region 13 with (go_at_call 22; refine (HMi.out _ _ VN.out).mono ?_; rintro e w3 ⟨v3, rfl, b3, hb⟩; obtain ⟨s3, A3, n3, c3, rfl⟩ := b3.open_; have V3 := Lib.hid b3; obtain ⟨l0, l1, g0, g1⟩ := X1.out.at hb k0 k1; have X3 := Lib.hid (X1.out.below hb); have B3 := Lib.hid (B.out.trans (hb.mono B.out.size)); clear b3 hb)
  have X4 := Lib.hid (X3.out.put V3.out)
  have B4 : Hid (Below w.heap.size w ((w3.setCell ⟨g, 0, none⟩ (.bool s3)).setCell ⟨g, 1, none⟩ (.slice A3 n3 c3))) := Lib.hid ((B3.out.setCell hg.out _).setCell hg.out _)
  generalize (w3.setCell ⟨g, 0, none⟩ (.bool s3)).setCell ⟨g, 1, none⟩ (.slice A3 n3 c3) = W4 at *
  clear X3 B3 V3 l0 l1 g0 g1 k0 k1 f0 f1 VN X1 B w3
  obtain ⟨y0, Y0, n0, m0, k0, k1, f0, f1, VN⟩ := X4.out.cells
  replace VN := Lib.hid VN
  have B := B4
  go_wp2_with first
    | (go_at_call 19; refine (HS.out _ _ VN.out).mono ?_; rintro e w5 ⟨rfl, hb⟩; have B := Lib.hid (B.out.trans (hb.mono B.out.size)); clear hb)
  go_ret2
  exact ⟨rfl, B.out⟩
set_option maxRecDepth 100000 in
set_option maxHeartbeats 2000000 in
theorem rgp_ok_four_n (s X Y Z : ByteArray) (K J : Nat) (w : World) (hs : X.size ≤ 100) (hk : K ≤ X.size) (hss : s.size ≤ 101) (hp : 0 < s.size) (h45 : ((s[0].toNat : Int) == 45) = true) (hex : s.extract 1 s.size = X)
    (HM : Hid (∀ w, Calls Try.prog 32 #[.string X] w fun e w' => e = .returned (.int .i64 K) ∧ w = w')) (c1 : K = 4) (c3 : X.size = K + 7) (hxk : K < X.size) (h58 : ((X[K].toNat : Int) != 58) = false) (hey : X.extract (K + 1) X.size = Y) (c6 : J = 6) (hez : X.extract 0 K = Z) (h0 : (Z.toList == [48, 48, 48, 48]) = false) (V x z r : Int) (hw : IntKind.i64.wrap x = x) (D : Int) (kk : Nat) (hkk : kk ≤ 1000)
    (HJ : Hid (∀ w, Calls Try.prog 32 #[.string Y] w fun e w' => e = .returned (.int .i64 J) ∧ w = w'))
    (HB : Hid (∀ w, Calls Try.prog 33 #[.string Z] w fun e w' => ∃ v, e = .returned v ∧ BV w' v D kk ∧ Below w.heap.size w w'))
    (HS : Hid (∀ v w, BV w v (-D) kk → Calls Try.prog 19 #[v] w fun e w' => e = .returned (.tuple #[.int .i64 V, .int .i64 0]) ∧ Below w.heap.size w w'))
    (HW : Hid (∀ w, Calls Try.prog 34 #[.string Y, .int .i64 6, .int .i64 6] w fun e w' => e = .returned (.tuple #[.int .i64 x, .int .i64 0]) ∧ Below w.heap.size w w'))
    (HT : Hid (∀ w, Calls Try.prog 11 #[.int .i64 V, .int .i64 x] w fun e w' => e = .returned (.tuple #[.int .i64 z, .int .i64 r]) ∧ Below w.heap.size w w')) :
    Calls Try.prog 13 #[.string s] w fun e w' => e = .returned (.tuple #[.int .i64 z, .int .i64 r]) ∧ Below w.heap.size w w' := by
  have hps : (s.size : Int) > 0 := by omega
  have r7 : IntKind.i64.wrap ((K : Int) + 7) = (K : Int) + 7 := IntWalk.i64_in _ (by omega)
  have r1 : IntKind.i64.wrap ((K : Int) + 1) = (K : Int) + 1 := IntWalk.i64_in _ (by omega)
  have t1 : decide ((K : Int) < 4) = false := decide_eq_false (by omega)
  have t2 : decide (4 < (K : Int)) = false := decide_eq_false (by omega)
  have t3 : ((X.size : Int) != (K : Int) + 7) = false := by rw [bne_eq_false_iff_eq]; omega
  have hk1 : K + 1 ≤ X.size := hxk
  have t6 : ((J : Int) != 6) = false := by rw [bne_eq_false_iff_eq]; omega
  have HMi := Lib.hid (fun v w h => minus_big v D kk w h hkk)
  clear c1 c3 c6 hkk
  go_enter Try.func13, Try.ntmps13
  go_upto_region 12 with first
    | (go_at_call 32; (with_reducible refine (HM.out _).mono ?_); rintro e w' ⟨rfl, rfl⟩)
    | (go_at_call 32; (with_reducible refine (HJ.out _).mono ?_); rintro e w' ⟨rfl, rfl⟩)
    | (go_at_call 33; refine (HB.out _).mono ?_; rintro e w1 ⟨v1, rfl, b1, hb⟩; obtain ⟨s1, A1, n1, c1, rfl⟩ := b1.open_; have V1 := Lib.hid b1; have B := Lib.hid hb; clear b1 hb)
  have X1 := Bx.new V1.out
  have hb := bel_al w1 #[.bool s1, .slice A1 n1 c1] 50
  have hg := Lib.hid B.out.size
  replace B := Lib.hid (B.out.trans (hb.mono B.out.size))
  clear hb V1
  generalize World.alloc w1 _ = W2 at *
  replace X1 := Lib.hid X1
  obtain ⟨g, hgd⟩ : ∃ g, g = w1.heap.size := ⟨_, rfl⟩
  rw [← hgd] at hg X1 ⊢
  clear hgd w1
  obtain ⟨y0, Y0, n0, m0, k0, k1, f0, f1, VN⟩ := X1.out.cells
  replace VN := Lib.hid VN
  go_upto_region 13 with (go_at_call 22; refine (HMi.out _ _ VN.out).mono ?_; rintro e w3 ⟨v3, rfl, b3, hb⟩; obtain ⟨s3, A3, n3, c3, rfl⟩ := b3.open_; have V3 := Lib.hid b3; obtain ⟨l0, l1, g0, g1⟩ := X1.out.at hb k0 k1; have X3 := Lib.hid (X1.out.below hb); have B3 := Lib.hid (B.out.trans (hb.mono B.out.size)); clear b3 hb)
  have X4 := Lib.hid (X3.out.put V3.out)
  have B4 : Hid (Below w.heap.size w ((w3.setCell ⟨g, 0, none⟩ (.bool s3)).setCell ⟨g, 1, none⟩ (.slice A3 n3 c3))) := Lib.hid ((B3.out.setCell hg.out _).setCell hg.out _)
  generalize (w3.setCell ⟨g, 0, none⟩ (.bool s3)).setCell ⟨g, 1, none⟩ (.slice A3 n3 c3) = W4 at *
  clear X3 B3 V3 l0 l1 g0 g1 k0 k1 f0 f1 VN X1 B w3
  obtain ⟨y0, Y0, n0, m0, k0, k1, f0, f1, VN⟩ := X4.out.cells
  replace VN := Lib.hid VN
  have B := B4
  go_wp2_with first
    | (go_at_call 19; refine (HS.out _ _ VN.out).mono ?_; rintro e w5 ⟨rfl, hb⟩; have B := Lib.hid (B.out.trans (hb.mono B.out.size)); clear hb)
    | (go_at_call 34; refine (HW.out _).mono ?_; rintro e w6 ⟨rfl, hb⟩; have B := Lib.hid (B.out.trans (hb.mono B.out.size)); clear hb)
    | (go_at_call 11; refine (HT.out _).mono ?_; rintro e w7 ⟨rfl, hb⟩; have B := Lib.hid (B.out.trans (hb.mono B.out.size)); clear hb)
  go_ret2
  exact ⟨rfl, B.out⟩
set_option maxRecDepth 100000 in
set_option maxHeartbeats 2000000 in
theorem rgp_len_many_n (s X Y Z : ByteArray) (K J : Nat) (w : World) (hs : X.size ≤ 100) (hk : K ≤ X.size) (hss : s.size ≤ 101) (hp : 0 < s.size) (h45 : ((s[0].toNat : Int) == 45) = true) (hex : s.extract 1 s.size = X)
    (HM : Hid (∀ w, Calls Try.prog 32 #[.string X] w fun e w' => e = .returned (.int .i64 K) ∧ w = w')) (c1 : 4 < K) (hx : 0 < X.size) (h48 : ((X[0].toNat : Int) == 48) = false) (c3 : X.size ≠ K + 7) :
    Calls Try.prog 13 #[.string s] w fun e w' => e = .returned (.tuple #[.int .i64 0, .int .i64 2]) ∧ Below w.heap.size w w' := by
  have hps : (s.size : Int) > 0 := by omega
  have r7 : IntKind.i64.wrap ((K : Int) + 7) = (K : Int) + 7 := IntWalk.i64_in _ (by omega)
  have r1 : IntKind.i64.wrap ((K : Int) + 1) = (K : Int) + 1 := IntWalk.i64_in _ (by omega)
  have t1 : decide ((K : Int) < 4) = false := decide_eq_false (by omega)
  have t2 : decide (4 < (K : Int)) = true := decide_eq_true (by omega)
  have t3 : ((X.size : Int) != (K : Int) + 7) = true := bne_iff_ne.2 (by omega)
  clear c1 c3
  go_enter Try.func13, Try.ntmps13
  go_wp2_with first
    | (go_at_call 32; refine (HM.out _).mono ?_; rintro e w' ⟨rfl, rfl⟩)
  go_ret2
  exact ⟨rfl, Below.refl _ _⟩
set_option maxRecDepth 100000 in
set_option maxHeartbeats 2000000 in
theorem rgp_mark_many_n (s X Y Z : ByteArray) (K J : Nat) (w : World) (hs : X.size ≤ 100) (hk : K ≤ X.size) (hss : s.size ≤ 101) (hp : 0 < s.size) (h45 : ((s[0].toNat : Int) == 45) = true) (hex : s.extract 1 s.size = X)
    (HM : Hid (∀ w, Calls Try.prog 32 #[.string X] w fun e w' => e = .returned (.int .i64 K) ∧ w = w')) (c1 : 4 < K) (hx : 0 < X.size) (h48 : ((X[0].toNat : Int) == 48) = false) (c3 : X.size = K + 7) (hxk : K < X.size) (h58 : ((X[K].toNat : Int) != 58) = true) :
    Calls Try.prog 13 #[.string s] w fun e w' => e = .returned (.tuple #[.int .i64 0, .int .i64 2]) ∧ Below w.heap.size w w' := by
  have hps : (s.size : Int) > 0 := by omega
  have r7 : IntKind.i64.wrap ((K : Int) + 7) = (K : Int) + 7 := IntWalk.i64_in _ (by omega)
  have r1 : IntKind.i64.wrap ((K : Int) + 1) = (K : Int) + 1 := IntWalk.i64_in _ (by omega)
  have t1 : decide ((K : Int) < 4) = false := decide_eq_false (by omega)
  have t2 : decide (4 < (K : Int)) = true := decide_eq_true (by omega)
  have t3 : ((X.size : Int) != (K : Int) + 7) = false := by rw [bne_eq_false_iff_eq]; omega
  clear c1 c3
  go_enter Try.func13, Try.ntmps13
  go_wp2_with first
    | (go_at_call 32; refine (HM.out _).mono ?_; rintro e w' ⟨rfl, rfl⟩)
  go_ret2
  exact ⟨rfl, Below.refl _ _⟩
set_option maxRecDepth 100000 in
set_option maxHeartbeats 2000000 in
theorem rgp_rest_many_n (s X Y Z : ByteArray) (K J : Nat) (w : World) (hs : X.size ≤ 100) (hk : K ≤ X.size) (hss : s.size ≤ 101) (hp : 0 < s.size) (h45 : ((s[0].toNat : Int) == 45) = true) (hex : s.extract 1 s.size = X)
    (HM : Hid (∀ w, Calls Try.prog 32 #[.string X] w fun e w' => e = .returned (.int .i64 K) ∧ w = w')) (c1 : 4 < K) (hx : 0 < X.size) (h48 : ((X[0].toNat : Int) == 48) = false) (c3 : X.size = K + 7) (hxk : K < X.size) (h58 : ((X[K].toNat : Int) != 58) = false) (hey : X.extract (K + 1) X.size = Y) (c6 : J ≠ 6)
    (HJ : Hid (∀ w, Calls Try.prog 32 #[.string Y] w fun e w' => e = .returned (.int .i64 J) ∧ w = w')) :
    Calls Try.prog 13 #[.string s] w fun e w' => e = .returned (.tuple #[.int .i64 0, .int .i64 2]) ∧ Below w.heap.size w w' := by
  have hps : (s.size : Int) > 0 := by omega
  have r7 : IntKind.i64.wrap ((K : Int) + 7) = (K : Int) + 7 := IntWalk.i64_in _ (by omega)
  have r1 : IntKind.i64.wrap ((K : Int) + 1) = (K : Int) + 1 := IntWalk.i64_in _ (by omega)
  have t1 : decide ((K : Int) < 4) = false := decide_eq_false (by omega)
  have t2 : decide (4 < (K : Int)) = true := decide_eq_true (by omega)
  have t3 : ((X.size : Int) != (K : Int) + 7) = false := by rw [bne_eq_false_iff_eq]; omega
  have hk1 : K + 1 ≤ X.size := hxk
  have t6 : ((J : Int) != 6) = true := bne_iff_ne.2 (by omega)
  clear c1 c3 c6
  go_enter Try.func13, Try.ntmps13
  go_wp2_with first
    | (go_at_call 32; (with_reducible refine (HM.out _).mono ?_); rintro e w' ⟨rfl, rfl⟩)
    | (go_at_call 32; (with_reducible refine (HJ.out _).mono ?_); rintro e w' ⟨rfl, rfl⟩)
  go_ret2
  exact ⟨rfl, Below.refl _ _⟩
set_option maxRecDepth 100000 in
set_option maxHeartbeats 2000000 in
theorem rgp_over_many_n (s X Y Z : ByteArray) (K J : Nat) (w : World) (hs : X.size ≤ 100) (hk : K ≤ X.size) (hss : s.size ≤ 101) (hp : 0 < s.size) (h45 : ((s[0].toNat : Int) == 45) = true) (hex : s.extract 1 s.size = X)
    (HM : Hid (∀ w, Calls Try.prog 32 #[.string X] w fun e w' => e = .returned (.int .i64 K) ∧ w = w')) (c1 : 4 < K) (hx : 0 < X.size) (h48 : ((X[0].toNat : Int) == 48) = false) (c3 : X.size = K + 7) (hxk : K < X.size) (h58 : ((X[K].toNat : Int) != 58) = false) (hey : X.extract (K + 1) X.size = Y) (c6 : J = 6) (hez : X.extract 0 K = Z) (h0 : (Z.toList == [48, 48, 48, 48]) = false) (D : Int) (kk : Nat) (hkk : kk ≤ 1000)
    (HJ : Hid (∀ w, Calls Try.prog 32 #[.string Y] w fun e w' => e = .returned (.int .i64 J) ∧ w = w'))
    (HB : Hid (∀ w, Calls Try.prog 33 #[.string Z] w fun e w' => ∃ v, e = .returned v ∧ BV w' v D kk ∧ Below w.heap.size w w'))
    (HS : Hid (∀ v w, BV w v (-D) kk → Calls Try.prog 19 #[v] w fun e w' => e = .returned (.tuple #[.int .i64 0, .int .i64 5]) ∧ Below w.heap.size w w')) :
    Calls Try.prog 13 #[.string s] w fun e w' => e = .returned (.tuple #[.int .i64 0, .int .i64 5]) ∧ Below w.heap.size w w' := by
  have hps : (s.size : Int) > 0 := by omega
  have r7 : IntKind.i64.wrap ((K : Int) + 7) = (K : Int) + 7 := IntWalk.i64_in _ (by omega)
  have r1 : IntKind.i64.wrap ((K : Int) + 1) = (K : Int) + 1 := IntWalk.i64_in _ (by omega)
  have t1 : decide ((K : Int) < 4) = false := decide_eq_false (by omega)
  have t2 : decide (4 < (K : Int)) = true := decide_eq_true (by omega)
  have t3 : ((X.size : Int) != (K : Int) + 7) = false := by rw [bne_eq_false_iff_eq]; omega
  have hk1 : K + 1 ≤ X.size := hxk
  have t6 : ((J : Int) != 6) = false := by rw [bne_eq_false_iff_eq]; omega
  have HMi := Lib.hid (fun v w h => minus_big v D kk w h hkk)
  clear c1 c3 c6 hkk
  go_enter Try.func13, Try.ntmps13
  go_upto_region 12 with first
    | (go_at_call 32; (with_reducible refine (HM.out _).mono ?_); rintro e w' ⟨rfl, rfl⟩)
    | (go_at_call 32; (with_reducible refine (HJ.out _).mono ?_); rintro e w' ⟨rfl, rfl⟩)
    | (go_at_call 33; refine (HB.out _).mono ?_; rintro e w1 ⟨v1, rfl, b1, hb⟩; obtain ⟨s1, A1, n1, c1, rfl⟩ := b1.open_; have V1 := Lib.hid b1; have B := Lib.hid hb; clear b1 hb)
  have X1 := Bx.new V1.out
  have hb := bel_al w1 #[.bool s1, .slice A1 n1 c1] 50
  have hg := Lib.hid B.out.size
  replace B := Lib.hid (B.out.trans (hb.mono B.out.size))
  clear hb V1
  generalize World.alloc w1 _ = W2 at *
  replace X1 := Lib.hid X1
  obtain ⟨g, hgd⟩ : ∃ g, g = w1.heap.size := ⟨_, rfl⟩
  rw [← hgd] at hg X1 ⊢
  clear hgd w1
  obtain ⟨y0, Y0, n0, m0, k0, k1, f0, f1, VN⟩ := X1.out.cells
  replace VN := Lib.hid VN
  go_upto_region 13 with (go_at_call 22; refine (HMi.out _ _ VN.out).mono ?_; rintro e w3 ⟨v3, rfl, b3, hb⟩; obtain ⟨s3, A3, n3, c3, rfl⟩ := b3.open_; have V3 := Lib.hid b3; obtain ⟨l0, l1, g0, g1⟩ := X1.out.at hb k0 k1; have X3 := Lib.hid (X1.out.below hb); have B3 := Lib.hid (B.out.trans (hb.mono B.out.size)); clear b3 hb)
  have X4 := Lib.hid (X3.out.put V3.out)
  have B4 : Hid (Below w.heap.size w ((w3.setCell ⟨g, 0, none⟩ (.bool s3)).setCell ⟨g, 1, none⟩ (.slice A3 n3 c3))) := Lib.hid ((B3.out.setCell hg.out _).setCell hg.out _)
  generalize (w3.setCell ⟨g, 0, none⟩ (.bool s3)).setCell ⟨g, 1, none⟩ (.slice A3 n3 c3) = W4 at *
  clear X3 B3 V3 l0 l1 g0 g1 k0 k1 f0 f1 VN X1 B w3
  obtain ⟨y0, Y0, n0, m0, k0, k1, f0, f1, VN⟩ := X4.out.cells
  replace VN := Lib.hid VN
  have B := B4
  go_wp2_with first
    | (go_at_call 19; refine (HS.out _ _ VN.out).mono ?_; rintro e w5 ⟨rfl, hb⟩; have B := Lib.hid (B.out.trans (hb.mono B.out.size)); clear hb)
  go_ret2
  exact ⟨rfl, B.out⟩
set_option maxRecDepth 100000 in
set_option maxHeartbeats 2000000 in
theorem rgp_ok_many_n (s X Y Z : ByteArray) (K J : Nat) (w : World) (hs : X.size ≤ 100) (hk : K ≤ X.size) (hss : s.size ≤ 101) (hp : 0 < s.size) (h45 : ((s[0].toNat : Int) == 45) = true) (hex : s.extract 1 s.size = X)
    (HM : Hid (∀ w, Calls Try.prog 32 #[.string X] w fun e w' => e = .returned (.int .i64 K) ∧ w = w')) (c1 : 4 < K) (hx : 0 < X.size) (h48 : ((X[0].toNat : Int) == 48) = false) (c3 : X.size = K + 7) (hxk : K < X.size) (h58 : ((X[K].toNat : Int) != 58) = false) (hey : X.extract (K + 1) X.size = Y) (c6 : J = 6) (hez : X.extract 0 K = Z) (h0 : (Z.toList == [48, 48, 48, 48]) = false) (V x z r : Int) (hw : IntKind.i64.wrap x = x) (D : Int) (kk : Nat) (hkk : kk ≤ 1000)
    (HJ : Hid (∀ w, Calls Try.prog 32 #[.string Y] w fun e w' => e = .returned (.int .i64 J) ∧ w = w'))
    (HB : Hid (∀ w, Calls Try.prog 33 #[.string Z] w fun e w' => ∃ v, e = .returned v ∧ BV w' v D kk ∧ Below w.heap.size w w'))
    (HS : Hid (∀ v w, BV w v (-D) kk → Calls Try.prog 19 #[v] w fun e w' => e = .returned (.tuple #[.int .i64 V, .int .i64 0]) ∧ Below w.heap.size w w'))
    (HW : Hid (∀ w, Calls Try.prog 34 #[.string Y, .int .i64 6, .int .i64 6] w fun e w' => e = .returned (.tuple #[.int .i64 x, .int .i64 0]) ∧ Below w.heap.size w w'))
    (HT : Hid (∀ w, Calls Try.prog 11 #[.int .i64 V, .int .i64 x] w fun e w' => e = .returned (.tuple #[.int .i64 z, .int .i64 r]) ∧ Below w.heap.size w w')) :
    Calls Try.prog 13 #[.string s] w fun e w' => e = .returned (.tuple #[.int .i64 z, .int .i64 r]) ∧ Below w.heap.size w w' := by
  have hps : (s.size : Int) > 0 := by omega
  have r7 : IntKind.i64.wrap ((K : Int) + 7) = (K : Int) + 7 := IntWalk.i64_in _ (by omega)
  have r1 : IntKind.i64.wrap ((K : Int) + 1) = (K : Int) + 1 := IntWalk.i64_in _ (by omega)
  have t1 : decide ((K : Int) < 4) = false := decide_eq_false (by omega)
  have t2 : decide (4 < (K : Int)) = true := decide_eq_true (by omega)
  have t3 : ((X.size : Int) != (K : Int) + 7) = false := by rw [bne_eq_false_iff_eq]; omega
  have hk1 : K + 1 ≤ X.size := hxk
  have t6 : ((J : Int) != 6) = false := by rw [bne_eq_false_iff_eq]; omega
  have HMi := Lib.hid (fun v w h => minus_big v D kk w h hkk)
  clear c1 c3 c6 hkk
  go_enter Try.func13, Try.ntmps13
  go_upto_region 12 with first
    | (go_at_call 32; (with_reducible refine (HM.out _).mono ?_); rintro e w' ⟨rfl, rfl⟩)
    | (go_at_call 32; (with_reducible refine (HJ.out _).mono ?_); rintro e w' ⟨rfl, rfl⟩)
    | (go_at_call 33; refine (HB.out _).mono ?_; rintro e w1 ⟨v1, rfl, b1, hb⟩; obtain ⟨s1, A1, n1, c1, rfl⟩ := b1.open_; have V1 := Lib.hid b1; have B := Lib.hid hb; clear b1 hb)
  have X1 := Bx.new V1.out
  have hb := bel_al w1 #[.bool s1, .slice A1 n1 c1] 50
  have hg := Lib.hid B.out.size
  replace B := Lib.hid (B.out.trans (hb.mono B.out.size))
  clear hb V1
  generalize World.alloc w1 _ = W2 at *
  replace X1 := Lib.hid X1
  obtain ⟨g, hgd⟩ : ∃ g, g = w1.heap.size := ⟨_, rfl⟩
  rw [← hgd] at hg X1 ⊢
  clear hgd w1
  obtain ⟨y0, Y0, n0, m0, k0, k1, f0, f1, VN⟩ := X1.out.cells
  replace VN := Lib.hid VN
  go_upto_region 13 with (go_at_call 22; refine (HMi.out _ _ VN.out).mono ?_; rintro e w3 ⟨v3, rfl, b3, hb⟩; obtain ⟨s3, A3, n3, c3, rfl⟩ := b3.open_; have V3 := Lib.hid b3; obtain ⟨l0, l1, g0, g1⟩ := X1.out.at hb k0 k1; have X3 := Lib.hid (X1.out.below hb); have B3 := Lib.hid (B.out.trans (hb.mono B.out.size)); clear b3 hb)
  have X4 := Lib.hid (X3.out.put V3.out)
  have B4 : Hid (Below w.heap.size w ((w3.setCell ⟨g, 0, none⟩ (.bool s3)).setCell ⟨g, 1, none⟩ (.slice A3 n3 c3))) := Lib.hid ((B3.out.setCell hg.out _).setCell hg.out _)
  generalize (w3.setCell ⟨g, 0, none⟩ (.bool s3)).setCell ⟨g, 1, none⟩ (.slice A3 n3 c3) = W4 at *
  clear X3 B3 V3 l0 l1 g0 g1 k0 k1 f0 f1 VN X1 B w3
  obtain ⟨y0, Y0, n0, m0, k0, k1, f0, f1, VN⟩ := X4.out.cells
  replace VN := Lib.hid VN
  have B := B4
  go_wp2_with first
    | (go_at_call 19; refine (HS.out _ _ VN.out).mono ?_; rintro e w5 ⟨rfl, hb⟩; have B := Lib.hid (B.out.trans (hb.mono B.out.size)); clear hb)
    | (go_at_call 34; refine (HW.out _).mono ?_; rintro e w6 ⟨rfl, hb⟩; have B := Lib.hid (B.out.trans (hb.mono B.out.size)); clear hb)
    | (go_at_call 11; refine (HT.out _).mono ?_; rintro e w7 ⟨rfl, hb⟩; have B := Lib.hid (B.out.trans (hb.mono B.out.size)); clear hb)
  go_ret2
  exact ⟨rfl, B.out⟩
set_option maxRecDepth 100000 in
set_option maxHeartbeats 2000000 in
theorem rgp_few_p (s X Y Z : ByteArray) (K J : Nat) (w : World) (hs : X.size ≤ 100) (hk : K ≤ X.size) (hp : 0 < X.size) (h45 : ((X[0].toNat : Int) == 45) = false)
    (HM : Hid (∀ w, Calls Try.prog 32 #[.string X] w fun e w' => e = .returned (.int .i64 K) ∧ w = w')) (c1 : K < 4) :
    Calls Try.prog 13 #[.string X] w fun e w' => e = .returned (.tuple #[.int .i64 0, .int .i64 2]) ∧ Below w.heap.size w w' := by
  have hps : (X.size : Int) > 0 := by omega
  have r7 : IntKind.i64.wrap ((K : Int) + 7) = (K : Int) + 7 := IntWalk.i64_in _ (by omega)
  have r1 : IntKind.i64.wrap ((K : Int) + 1) = (K : Int) + 1 := IntWalk.i64_in _ (by omega)
  have t1 : decide ((K : Int) < 4) = true := decide_eq_true (by omega)
  clear c1
  go_enter Try.func13, Try.ntmps13
  go_wp2_with first
    | (go_at_call 32; refine (HM.out _).mono ?_; rintro e w' ⟨rfl, rfl⟩)
  go_ret2
  exact ⟨rfl, Below.refl _ _⟩
set_option maxRecDepth 100000 in
set_option maxHeartbeats 2000000 in
theorem rgp_zero_p (s X Y Z : ByteArray) (K J : Nat) (w : World) (hs : X.size ≤ 100) (hk : K ≤ X.size) (hp : 0 < X.size) (h45 : ((X[0].toNat : Int) == 45) = false)
    (HM : Hid (∀ w, Calls Try.prog 32 #[.string X] w fun e w' => e = .returned (.int .i64 K) ∧ w = w')) (c1 : 4 < K) (hx : 0 < X.size) (h48 : ((X[0].toNat : Int) == 48) = true) :
    Calls Try.prog 13 #[.string X] w fun e w' => e = .returned (.tuple #[.int .i64 0, .int .i64 2]) ∧ Below w.heap.size w w' := by
  have hps : (X.size : Int) > 0 := by omega
  have r7 : IntKind.i64.wrap ((K : Int) + 7) = (K : Int) + 7 := IntWalk.i64_in _ (by omega)
  have r1 : IntKind.i64.wrap ((K : Int) + 1) = (K : Int) + 1 := IntWalk.i64_in _ (by omega)
  have t1 : decide ((K : Int) < 4) = false := decide_eq_false (by omega)
  have t2 : decide (4 < (K : Int)) = true := decide_eq_true (by omega)
  clear c1
  go_enter Try.func13, Try.ntmps13
  go_wp2_with first
    | (go_at_call 32; refine (HM.out _).mono ?_; rintro e w' ⟨rfl, rfl⟩)
  go_ret2
  exact ⟨rfl, Below.refl _ _⟩
set_option maxRecDepth 100000 in
set_option maxHeartbeats 2000000 in
theorem rgp_len_four_p (s X Y Z : ByteArray) (K J : Nat) (w : World) (hs : X.size ≤ 100) (hk : K ≤ X.size) (hp : 0 < X.size) (h45 : ((X[0].toNat : Int) == 45) = false)
    (HM : Hid (∀ w, Calls Try.prog 32 #[.string X] w fun e w' => e = .returned (.int .i64 K) ∧ w = w')) (c1 : K = 4) (c3 : X.size ≠ K + 7) :
    Calls Try.prog 13 #[.string X] w fun e w' => e = .returned (.tuple #[.int .i64 0, .int .i64 2]) ∧ Below w.heap.size w w' := by
  have hps : (X.size : Int) > 0 := by omega
  have r7 : IntKind.i64.wrap ((K : Int) + 7) = (K : Int) + 7 := IntWalk.i64_in _ (by omega)
  have r1 : IntKind.i64.wrap ((K : Int) + 1) = (K : Int) + 1 := IntWalk.i64_in _ (by omega)
  have t1 : decide ((K : Int) < 4) = false := decide_eq_false (by omega)
  have t2 : decide (4 < (K : Int)) = false := decide_eq_false (by omega)
  have t3 : ((X.size : Int) != (K : Int) + 7) = true := bne_iff_ne.2 (by omega)
  clear c1 c3
  go_enter Try.func13, Try.ntmps13
  go_wp2_with first
    | (go_at_call 32; refine (HM.out _).mono ?_; rintro e w' ⟨rfl, rfl⟩)
  go_ret2
  exact ⟨rfl, Below.refl _ _⟩
set_option maxRecDepth 100000 in
set_option maxHeartbeats 2000000 in
theorem rgp_mark_four_p (s X Y Z : ByteArray) (K J : Nat) (w : World) (hs : X.size ≤ 100) (hk : K ≤ X.size) (hp : 0 < X.size) (h45 : ((X[0].toNat : Int) == 45) = false)
    (HM : Hid (∀ w, Calls Try.prog 32 #[.string X] w fun e w' => e = .returned (.int .i64 K) ∧ w = w')) (c1 : K = 4) (c3 : X.size = K + 7) (hxk : K < X.size) (h58 : ((X[K].toNat : Int) != 58) = true) :
    Calls Try.prog 13 #[.string X] w fun e w' => e = .returned (.tuple #[.int .i64 0, .int .i64 2]) ∧ Below w.heap.size w w' := by
  have hps : (X.size : Int) > 0 := by omega
  have r7 : IntKind.i64.wrap ((K : Int) + 7) = (K : Int) + 7 := IntWalk.i64_in _ (by omega)
  have r1 : IntKind.i64.wrap ((K : Int) + 1) = (K : Int) + 1 := IntWalk.i64_in _ (by omega)
  have t1 : decide ((K : Int) < 4) = false := decide_eq_false (by omega)
  have t2 : decide (4 < (K : Int)) = false := decide_eq_false (by omega)
  have t3 : ((X.size : Int) != (K : Int) + 7) = false := by rw [bne_eq_false_iff_eq]; omega
  clear c1 c3
  go_enter Try.func13, Try.ntmps13
  go_wp2_with first
    | (go_at_call 32; refine (HM.out _).mono ?_; rintro e w' ⟨rfl, rfl⟩)
  go_ret2
  exact ⟨rfl, Below.refl _ _⟩
set_option maxRecDepth 100000 in
set_option maxHeartbeats 2000000 in
theorem rgp_rest_four_p (s X Y Z : ByteArray) (K J : Nat) (w : World) (hs : X.size ≤ 100) (hk : K ≤ X.size) (hp : 0 < X.size) (h45 : ((X[0].toNat : Int) == 45) = false)
    (HM : Hid (∀ w, Calls Try.prog 32 #[.string X] w fun e w' => e = .returned (.int .i64 K) ∧ w = w')) (c1 : K = 4) (c3 : X.size = K + 7) (hxk : K < X.size) (h58 : ((X[K].toNat : Int) != 58) = false) (hey : X.extract (K + 1) X.size = Y) (c6 : J ≠ 6)
    (HJ : Hid (∀ w, Calls Try.prog 32 #[.string Y] w fun e w' => e = .returned (.int .i64 J) ∧ w = w')) :
    Calls Try.prog 13 #[.string X] w fun e w' => e = .returned (.tuple #[.int .i64 0, .int .i64 2]) ∧ Below w.heap.size w w' := by
  have hps : (X.size : Int) > 0 := by omega
  have r7 : IntKind.i64.wrap ((K : Int) + 7) = (K : Int) + 7 := IntWalk.i64_in _ (by omega)
  have r1 : IntKind.i64.wrap ((K : Int) + 1) = (K : Int) + 1 := IntWalk.i64_in _ (by omega)
  have t1 : decide ((K : Int) < 4) = false := decide_eq_false (by omega)
  have t2 : decide (4 < (K : Int)) = false := decide_eq_false (by omega)
  have t3 : ((X.size : Int) != (K : Int) + 7) = false := by rw [bne_eq_false_iff_eq]; omega
  have hk1 : K + 1 ≤ X.size := hxk
  have t6 : ((J : Int) != 6) = true := bne_iff_ne.2 (by omega)
  clear c1 c3 c6
  go_enter Try.func13, Try.ntmps13
  go_wp2_with first
    | (go_at_call 32; (with_reducible refine (HM.out _).mono ?_); rintro e w' ⟨rfl, rfl⟩)
    | (go_at_call 32; (with_reducible refine (HJ.out _).mono ?_); rintro e w' ⟨rfl, rfl⟩)
  go_ret2
  exact ⟨rfl, Below.refl _ _⟩
set_option maxRecDepth 100000 in
set_option maxHeartbeats 2000000 in
theorem rgp_over_four_p (s X Y Z : ByteArray) (K J : Nat) (w : World) (hs : X.size ≤ 100) (hk : K ≤ X.size) (hp : 0 < X.size) (h45 : ((X[0].toNat : Int) == 45) = false)
    (HM : Hid (∀ w, Calls Try.prog 32 #[.string X] w fun e w' => e = .returned (.int .i64 K) ∧ w = w')) (c1 : K = 4) (c3 : X.size = K + 7) (hxk : K < X.size) (h58 : ((X[K].toNat : Int) != 58) = false) (hey : X.extract (K + 1) X.size = Y) (c6 : J = 6) (hez : X.extract 0 K = Z) (D : Int) (kk : Nat) (hkk : kk ≤ 1000)
    (HJ : Hid (∀ w, Calls Try.prog 32 #[.string Y] w fun e w' => e = .returned (.int .i64 J) ∧ w = w'))
    (HB : Hid (∀ w, Calls Try.prog 33 #[.string Z] w fun e w' => ∃ v, e = .returned v ∧ BV w' v D kk ∧ Below w.heap.size w w'))
    (HS : Hid (∀ v w, BV w v D kk → Calls Try.prog 19 #[v] w fun e w' => e = .returned (.tuple #[.int .i64 0, .int .i64 5]) ∧ Below w.heap.size w w')) :
    Calls Try.prog 13 #[.string X] w fun e w' => e = .returned (.tuple #[.int .i64 0, .int .i64 5]) ∧ Below w.heap.size w w' := by
  have hps : (X.size : Int) > 0 := by omega
  have r7 : IntKind.i64.wrap ((K : Int) + 7) = (K : Int) + 7 := IntWalk.i64_in _ (by omega)
  have r1 : IntKind.i64.wrap ((K : Int) + 1) = (K : Int) + 1 := IntWalk.i64_in _ (by omega)
  have t1 : decide ((K : Int) < 4) = false := decide_eq_false (by omega)
  have t2 : decide (4 < (K : Int)) = false := decide_eq_false (by omega)
  have t3 : ((X.size : Int) != (K : Int) + 7) = false := by rw [bne_eq_false_iff_eq]; omega
  have hk1 : K + 1 ≤ X.size := hxk
  have t6 : ((J : Int) != 6) = false := by rw [bne_eq_false_iff_eq]; omega
  clear c1 c3 c6 hkk
  go_enter Try.func13, Try.ntmps13
  go_upto_region 13 with first
    | (go_at_call 32; (with_reducible refine (HM.out _).mono ?_); rintro e w' ⟨rfl, rfl⟩)
    | (go_at_call 32; (with_reducible refine (HJ.out _).mono ?_); rintro e w' ⟨rfl, rfl⟩)
    | (go_at_call 33; refine (HB.out _).mono ?_; rintro e w1 ⟨v1, rfl, b1, hb⟩; obtain ⟨s1, A1, n1, c1, rfl⟩ := b1.open_; have V1 := Lib.hid b1; have B := Lib.hid hb; clear b1 hb)
  have X1 := Bx.new V1.out
  have hb := bel_al w1 #[.bool s1, .slice A1 n1 c1] 50
  have hg := Lib.hid B.out.size
  replace B := Lib.hid (B.out.trans (hb.mono B.out.size))
  clear hb V1
  generalize World.alloc w1 _ = W2 at *
  replace X1 := Lib.hid X1
  obtain ⟨g, hgd⟩ : ∃ g, g = w1.heap.size := ⟨_, rfl⟩
  rw [← hgd] at hg X1 ⊢
  clear hgd w1
  obtain ⟨y0, Y0, n0, m0, k0, k1, f0, f1, VN⟩ := X1.out.cells
  replace VN := Lib.hid VN
  go_wp2_with first
    | (go_at_call 19; refine (HS.out _ _ VN.out).mono ?_; rintro e w5 ⟨rfl, hb⟩; have B := Lib.hid (B.out.trans (hb.mono B.out.size)); clear hb)
  go_ret2
  exact ⟨rfl, B.out⟩
set_option maxRecDepth 100000 in
set_option maxHeartbeats 2000000 in
theorem rgp_ok_four_p (s X Y Z : ByteArray) (K J : Nat) (w : World) (hs : X.size ≤ 100) (hk : K ≤ X.size) (hp : 0 < X.size) (h45 : ((X[0].toNat : Int) == 45) = false)
    (HM : Hid (∀ w, Calls Try.prog 32 #[.string X] w fun e w' => e = .returned (.int .i64 K) ∧ w = w')) (c1 : K = 4) (c3 : X.size = K + 7) (hxk : K < X.size) (h58 : ((X[K].toNat : Int) != 58) = false) (hey : X.extract (K + 1) X.size = Y) (c6 : J = 6) (hez : X.extract 0 K = Z) (V x z r : Int) (hw : IntKind.i64.wrap x = x) (D : Int) (kk : Nat) (hkk : kk ≤ 1000)
    (HJ : Hid (∀ w, Calls Try.prog 32 #[.string Y] w fun e w' => e = .returned (.int .i64 J) ∧ w = w'))
    (HB : Hid (∀ w, Calls Try.prog 33 #[.string Z] w fun e w' => ∃ v, e = .returned v ∧ BV w' v D kk ∧ Below w.heap.size w w'))
    (HS : Hid (∀ v w, BV w v D kk → Calls Try.prog 19 #[v] w fun e w' => e = .returned (.tuple #[.int .i64 V, .int .i64 0]) ∧ Below w.heap.size w w'))
    (HW : Hid (∀ w, Calls Try.prog 34 #[.string Y, .int .i64 6, .int .i64 6] w fun e w' => e = .returned (.tuple #[.int .i64 x, .int .i64 0]) ∧ Below w.heap.size w w'))
    (HT : Hid (∀ w, Calls Try.prog 11 #[.int .i64 V, .int .i64 x] w fun e w' => e = .returned (.tuple #[.int .i64 z, .int .i64 r]) ∧ Below w.heap.size w w')) :
    Calls Try.prog 13 #[.string X] w fun e w' => e = .returned (.tuple #[.int .i64 z, .int .i64 r]) ∧ Below w.heap.size w w' := by
  have hps : (X.size : Int) > 0 := by omega
  have r7 : IntKind.i64.wrap ((K : Int) + 7) = (K : Int) + 7 := IntWalk.i64_in _ (by omega)
  have r1 : IntKind.i64.wrap ((K : Int) + 1) = (K : Int) + 1 := IntWalk.i64_in _ (by omega)
  have t1 : decide ((K : Int) < 4) = false := decide_eq_false (by omega)
  have t2 : decide (4 < (K : Int)) = false := decide_eq_false (by omega)
  have t3 : ((X.size : Int) != (K : Int) + 7) = false := by rw [bne_eq_false_iff_eq]; omega
  have hk1 : K + 1 ≤ X.size := hxk
  have t6 : ((J : Int) != 6) = false := by rw [bne_eq_false_iff_eq]; omega
  clear c1 c3 c6 hkk
  go_enter Try.func13, Try.ntmps13
  go_upto_region 13 with first
    | (go_at_call 32; (with_reducible refine (HM.out _).mono ?_); rintro e w' ⟨rfl, rfl⟩)
    | (go_at_call 32; (with_reducible refine (HJ.out _).mono ?_); rintro e w' ⟨rfl, rfl⟩)
    | (go_at_call 33; refine (HB.out _).mono ?_; rintro e w1 ⟨v1, rfl, b1, hb⟩; obtain ⟨s1, A1, n1, c1, rfl⟩ := b1.open_; have V1 := Lib.hid b1; have B := Lib.hid hb; clear b1 hb)
  have X1 := Bx.new V1.out
  have hb := bel_al w1 #[.bool s1, .slice A1 n1 c1] 50
  have hg := Lib.hid B.out.size
  replace B := Lib.hid (B.out.trans (hb.mono B.out.size))
  clear hb V1
  generalize World.alloc w1 _ = W2 at *
  replace X1 := Lib.hid X1
  obtain ⟨g, hgd⟩ : ∃ g, g = w1.heap.size := ⟨_, rfl⟩
  rw [← hgd] at hg X1 ⊢
  clear hgd w1
  obtain ⟨y0, Y0, n0, m0, k0, k1, f0, f1, VN⟩ := X1.out.cells
  replace VN := Lib.hid VN
  go_wp2_with first
    | (go_at_call 19; refine (HS.out _ _ VN.out).mono ?_; rintro e w5 ⟨rfl, hb⟩; have B := Lib.hid (B.out.trans (hb.mono B.out.size)); clear hb)
    | (go_at_call 34; refine (HW.out _).mono ?_; rintro e w6 ⟨rfl, hb⟩; have B := Lib.hid (B.out.trans (hb.mono B.out.size)); clear hb)
    | (go_at_call 11; refine (HT.out _).mono ?_; rintro e w7 ⟨rfl, hb⟩; have B := Lib.hid (B.out.trans (hb.mono B.out.size)); clear hb)
  go_ret2
  exact ⟨rfl, B.out⟩
set_option maxRecDepth 100000 in
set_option maxHeartbeats 2000000 in
theorem rgp_len_many_p (s X Y Z : ByteArray) (K J : Nat) (w : World) (hs : X.size ≤ 100) (hk : K ≤ X.size) (hp : 0 < X.size) (h45 : ((X[0].toNat : Int) == 45) = false)
    (HM : Hid (∀ w, Calls Try.prog 32 #[.string X] w fun e w' => e = .returned (.int .i64 K) ∧ w = w')) (c1 : 4 < K) (hx : 0 < X.size) (h48 : ((X[0].toNat : Int) == 48) = false) (c3 : X.size ≠ K + 7) :
    Calls Try.prog 13 #[.string X] w fun e w' => e = .returned (.tuple #[.int .i64 0, .int .i64 2]) ∧ Below w.heap.size w w' := by
  have hps : (X.size : Int) > 0 := by omega
  have r7 : IntKind.i64.wrap ((K : Int) + 7) = (K : Int) + 7 := IntWalk.i64_in _ (by omega)
  have r1 : IntKind.i64.wrap ((K : Int) + 1) = (K : Int) + 1 := IntWalk.i64_in _ (by omega)
  have t1 : decide ((K : Int) < 4) = false := decide_eq_false (by omega)
  have t2 : decide (4 < (K : Int)) = true := decide_eq_true (by omega)
  have t3 : ((X.size : Int) != (K : Int) + 7) = true := bne_iff_ne.2 (by omega)
  clear c1 c3
  go_enter Try.func13, Try.ntmps13
  go_wp2_with first
    | (go_at_call 32; refine (HM.out _).mono ?_; rintro e w' ⟨rfl, rfl⟩)
  go_ret2
  exact ⟨rfl, Below.refl _ _⟩
set_option maxRecDepth 100000 in
set_option maxHeartbeats 2000000 in
theorem rgp_mark_many_p (s X Y Z : ByteArray) (K J : Nat) (w : World) (hs : X.size ≤ 100) (hk : K ≤ X.size) (hp : 0 < X.size) (h45 : ((X[0].toNat : Int) == 45) = false)
    (HM : Hid (∀ w, Calls Try.prog 32 #[.string X] w fun e w' => e = .returned (.int .i64 K) ∧ w = w')) (c1 : 4 < K) (hx : 0 < X.size) (h48 : ((X[0].toNat : Int) == 48) = false) (c3 : X.size = K + 7) (hxk : K < X.size) (h58 : ((X[K].toNat : Int) != 58) = true) :
    Calls Try.prog 13 #[.string X] w fun e w' => e = .returned (.tuple #[.int .i64 0, .int .i64 2]) ∧ Below w.heap.size w w' := by
  have hps : (X.size : Int) > 0 := by omega
  have r7 : IntKind.i64.wrap ((K : Int) + 7) = (K : Int) + 7 := IntWalk.i64_in _ (by omega)
  have r1 : IntKind.i64.wrap ((K : Int) + 1) = (K : Int) + 1 := IntWalk.i64_in _ (by omega)
  have t1 : decide ((K : Int) < 4) = false := decide_eq_false (by omega)
  have t2 : decide (4 < (K : Int)) = true := decide_eq_true (by omega)
  have t3 : ((X.size : Int) != (K : Int) + 7) = false := by rw [bne_eq_false_iff_eq]; omega
  clear c1 c3
  go_enter Try.func13, Try.ntmps13
  go_wp2_with first
    | (go_at_call 32; refine (HM.out _).mono ?_; rintro e w' ⟨rfl, rfl⟩)
  go_ret2
  exact ⟨rfl, Below.refl _ _⟩
set_option maxRecDepth 100000 in
set_option maxHeartbeats 2000000 in
theorem rgp_rest_many_p (s X Y Z : ByteArray) (K J : Nat) (w : World) (hs : X.size ≤ 100) (hk : K ≤ X.size) (hp : 0 < X.size) (h45 : ((X[0].toNat : Int) == 45) = false)
    (HM : Hid (∀ w, Calls Try.prog 32 #[.string X] w fun e w' => e = .returned (.int .i64 K) ∧ w = w')) (c1 : 4 < K) (hx : 0 < X.size) (h48 : ((X[0].toNat : Int) == 48) = false) (c3 : X.size = K + 7) (hxk : K < X.size) (h58 : ((X[K].toNat : Int) != 58) = false) (hey : X.extract (K + 1) X.size = Y) (c6 : J ≠ 6)
    (HJ : Hid (∀ w, Calls Try.prog 32 #[.string Y] w fun e w' => e = .returned (.int .i64 J) ∧ w = w')) :
    Calls Try.prog 13 #[.string X] w fun e w' => e = .returned (.tuple #[.int .i64 0, .int .i64 2]) ∧ Below w.heap.size w w' := by
  have hps : (X.size : Int) > 0 := by omega
  have r7 : IntKind.i64.wrap ((K : Int) + 7) = (K : Int) + 7 := IntWalk.i64_in _ (by omega)
  have r1 : IntKind.i64.wrap ((K : Int) + 1) = (K : Int) + 1 := IntWalk.i64_in _ (by omega)
  have t1 : decide ((K : Int) < 4) = false := decide_eq_false (by omega)
  have t2 : decide (4 < (K : Int)) = true := decide_eq_true (by omega)
  have t3 : ((X.size : Int) != (K : Int) + 7) = false := by rw [bne_eq_false_iff_eq]; omega
  have hk1 : K + 1 ≤ X.size := hxk
  have t6 : ((J : Int) != 6) = true := bne_iff_ne.2 (by omega)
  clear c1 c3 c6
  go_enter Try.func13, Try.ntmps13
  go_wp2_with first
    | (go_at_call 32; (with_reducible refine (HM.out _).mono ?_); rintro e w' ⟨rfl, rfl⟩)
    | (go_at_call 32; (with_reducible refine (HJ.out _).mono ?_); rintro e w' ⟨rfl, rfl⟩)
  go_ret2
  exact ⟨rfl, Below.refl _ _⟩
set_option maxRecDepth 100000 in
set_option maxHeartbeats 2000000 in
theorem rgp_over_many_p (s X Y Z : ByteArray) (K J : Nat) (w : World) (hs : X.size ≤ 100) (hk : K ≤ X.size) (hp : 0 < X.size) (h45 : ((X[0].toNat : Int) == 45) = false)
    (HM : Hid (∀ w, Calls Try.prog 32 #[.string X] w fun e w' => e = .returned (.int .i64 K) ∧ w = w')) (c1 : 4 < K) (hx : 0 < X.size) (h48 : ((X[0].toNat : Int) == 48) = false) (c3 : X.size = K + 7) (hxk : K < X.size) (h58 : ((X[K].toNat : Int) != 58) = false) (hey : X.extract (K + 1) X.size = Y) (c6 : J = 6) (hez : X.extract 0 K = Z) (D : Int) (kk : Nat) (hkk : kk ≤ 1000)
    (HJ : Hid (∀ w, Calls Try.prog 32 #[.string Y] w fun e w' => e = .returned (.int .i64 J) ∧ w = w'))
    (HB : Hid (∀ w, Calls Try.prog 33 #[.string Z] w fun e w' => ∃ v, e = .returned v ∧ BV w' v D kk ∧ Below w.heap.size w w'))
    (HS : Hid (∀ v w, BV w v D kk → Calls Try.prog 19 #[v] w fun e w' => e = .returned (.tuple #[.int .i64 0, .int .i64 5]) ∧ Below w.heap.size w w')) :
    Calls Try.prog 13 #[.string X] w fun e w' => e = .returned (.tuple #[.int .i64 0, .int .i64 5]) ∧ Below w.heap.size w w' := by
  have hps : (X.size : Int) > 0 := by omega
  have r7 : IntKind.i64.wrap ((K : Int) + 7) = (K : Int) + 7 := IntWalk.i64_in _ (by omega)
  have r1 : IntKind.i64.wrap ((K : Int) + 1) = (K : Int) + 1 := IntWalk.i64_in _ (by omega)
  have t1 : decide ((K : Int) < 4) = false := decide_eq_false (by omega)
  have t2 : decide (4 < (K : Int)) = true := decide_eq_true (by omega)
  have t3 : ((X.size : Int) != (K : Int) + 7) = false := by rw [bne_eq_false_iff_eq]; omega
  have hk1 : K + 1 ≤ X.size := hxk
  have t6 : ((J : Int) != 6) = false := by rw [bne_eq_false_iff_eq]; omega
  clear c1 c3 c6 hkk
  go_enter Try.func13, Try.ntmps13
  go_upto_region 13 with first
    | (go_at_call 32; (with_reducible refine (HM.out _).mono ?_); rintro e w' ⟨rfl, rfl⟩)
    | (go_at_call 32; (with_reducible refine (HJ.out _).mono ?_); rintro e w' ⟨rfl, rfl⟩)
    | (go_at_call 33; refine (HB.out _).mono ?_; rintro e w1 ⟨v1, rfl, b1, hb⟩; obtain ⟨s1, A1, n1, c1, rfl⟩ := b1.open_; have V1 := Lib.hid b1; have B := Lib.hid hb; clear b1 hb)
  have X1 := Bx.new V1.out
  have hb := bel_al w1 #[.bool s1, .slice A1 n1 c1] 50
  have hg := Lib.hid B.out.size
  replace B := Lib.hid (B.out.trans (hb.mono B.out.size))
  clear hb V1
  generalize World.alloc w1 _ = W2 at *
  replace X1 := Lib.hid X1
  obtain ⟨g, hgd⟩ : ∃ g, g = w1.heap.size := ⟨_, rfl⟩
  rw [← hgd] at hg X1 ⊢
  clear hgd w1
  obtain ⟨y0, Y0, n0, m0, k0, k1, f0, f1, VN⟩ := X1.out.cells
  replace VN := Lib.hid VN
  go_wp2_with first
    | (go_at_call 19; refine (HS.out _ _ VN.out).mono ?_; rintro e w5 ⟨rfl, hb⟩; have B := Lib.hid (B.out.trans (hb.mono B.out.size)); clear hb)
  go_ret2
  exact ⟨rfl, B.out⟩
set_option maxRecDepth 100000 in
set_option maxHeartbeats 2000000 in
theorem rgp_ok_many_p (s X Y Z : ByteArray) (K J : Nat) (w : World) (hs : X.size ≤ 100) (hk : K ≤ X.size) (hp : 0 < X.size) (h45 : ((X[0].toNat : Int) == 45) = false)
    (HM : Hid (∀ w, Calls Try.prog 32 #[.string X] w fun e w' => e = .returned (.int .i64 K) ∧ w = w')) (c1 : 4 < K) (hx : 0 < X.size) (h48 : ((X[0].toNat : Int) == 48) = false) (c3 : X.size = K + 7) (hxk : K < X.size) (h58 : ((X[K].toNat : Int) != 58) = false) (hey : X.extract (K + 1) X.size = Y) (c6 : J = 6) (hez : X.extract 0 K = Z) (V x z r : Int) (hw : IntKind.i64.wrap x = x) (D : Int) (kk : Nat) (hkk : kk ≤ 1000)
    (HJ : Hid (∀ w, Calls Try.prog 32 #[.string Y] w fun e w' => e = .returned (.int .i64 J) ∧ w = w'))
    (HB : Hid (∀ w, Calls Try.prog 33 #[.string Z] w fun e w' => ∃ v, e = .returned v ∧ BV w' v D kk ∧ Below w.heap.size w w'))
    (HS : Hid (∀ v w, BV w v D kk → Calls Try.prog 19 #[v] w fun e w' => e = .returned (.tuple #[.int .i64 V, .int .i64 0]) ∧ Below w.heap.size w w'))
    (HW : Hid (∀ w, Calls Try.prog 34 #[.string Y, .int .i64 6, .int .i64 6] w fun e w' => e = .returned (.tuple #[.int .i64 x, .int .i64 0]) ∧ Below w.heap.size w w'))
    (HT : Hid (∀ w, Calls Try.prog 11 #[.int .i64 V, .int .i64 x] w fun e w' => e = .returned (.tuple #[.int .i64 z, .int .i64 r]) ∧ Below w.heap.size w w')) :
    Calls Try.prog 13 #[.string X] w fun e w' => e = .returned (.tuple #[.int .i64 z, .int .i64 r]) ∧ Below w.heap.size w w' := by
  have hps : (X.size : Int) > 0 := by omega
  have r7 : IntKind.i64.wrap ((K : Int) + 7) = (K : Int) + 7 := IntWalk.i64_in _ (by omega)
  have r1 : IntKind.i64.wrap ((K : Int) + 1) = (K : Int) + 1 := IntWalk.i64_in _ (by omega)
  have t1 : decide ((K : Int) < 4) = false := decide_eq_false (by omega)
  have t2 : decide (4 < (K : Int)) = true := decide_eq_true (by omega)
  have t3 : ((X.size : Int) != (K : Int) + 7) = false := by rw [bne_eq_false_iff_eq]; omega
  have hk1 : K + 1 ≤ X.size := hxk
  have t6 : ((J : Int) != 6) = false := by rw [bne_eq_false_iff_eq]; omega
  clear c1 c3 c6 hkk
  go_enter Try.func13, Try.ntmps13
  go_upto_region 13 with first
    | (go_at_call 32; (with_reducible refine (HM.out _).mono ?_); rintro e w' ⟨rfl, rfl⟩)
    | (go_at_call 32; (with_reducible refine (HJ.out _).mono ?_); rintro e w' ⟨rfl, rfl⟩)
    | (go_at_call 33; refine (HB.out _).mono ?_; rintro e w1 ⟨v1, rfl, b1, hb⟩; obtain ⟨s1, A1, n1, c1, rfl⟩ := b1.open_; have V1 := Lib.hid b1; have B := Lib.hid hb; clear b1 hb)
  have X1 := Bx.new V1.out
  have hb := bel_al w1 #[.bool s1, .slice A1 n1 c1] 50
  have hg := Lib.hid B.out.size
  replace B := Lib.hid (B.out.trans (hb.mono B.out.size))
  clear hb V1
  generalize World.alloc w1 _ = W2 at *
  replace X1 := Lib.hid X1
  obtain ⟨g, hgd⟩ : ∃ g, g = w1.heap.size := ⟨_, rfl⟩
  rw [← hgd] at hg X1 ⊢
  clear hgd w1
  obtain ⟨y0, Y0, n0, m0, k0, k1, f0, f1, VN⟩ := X1.out.cells
  replace VN := Lib.hid VN
  go_wp2_with first
    | (go_at_call 19; refine (HS.out _ _ VN.out).mono ?_; rintro e w5 ⟨rfl, hb⟩; have B := Lib.hid (B.out.trans (hb.mono B.out.size)); clear hb)
    | (go_at_call 34; refine (HW.out _).mono ?_; rintro e w6 ⟨rfl, hb⟩; have B := Lib.hid (B.out.trans (hb.mono B.out.size)); clear hb)
    | (go_at_call 11; refine (HT.out _).mono ?_; rintro e w7 ⟨rfl, hb⟩; have B := Lib.hid (B.out.trans (hb.mono B.out.size)); clear hb)
  go_ret2
  exact ⟨rfl, B.out⟩
theorem rgp_nil (X : ByteArray) (w : World) (hX : X.size = 0) :
    Calls Try.prog 13 #[.string X] w fun e w' => e = .returned (.tuple #[.int .i64 0, .int .i64 2]) ∧ Below w.heap.size w w' := by
  have hM := fun w => many_any X w (by rw [hX]; decide)
  have hz : X.data.toList = [] := List.eq_nil_of_length_eq_zero (by simpa using hX)
  rw [hz] at hM
  have hM : RowKit.Hid (∀ w, Calls Try.prog 32 #[.string X] w fun e w' => e = .returned (.int .i64 0) ∧ w = w') := Lib.hid hM
  have hz2 : ¬ ((X.size : Int) > 0) := by omega
  clear hz hX
  go_enter Try.func13, Try.ntmps13
  go_wp2_with (go_at_call 32; refine (hM.out _).mono ?_; rintro e w' ⟨rfl, rfl⟩)
  go_ret2
  exact ⟨rfl, Below.refl _ _⟩
end Go.Proofs.Ytjbbnlcghnjlfaa
