/- MjdBack. Written by gen_mjd.py. -/
import Derived.Test.YtmfjfbofkkbmiaaDoorMjdD
namespace Go.Proofs.YtmfjfbofkkbmiaaDoor
open Go.RowKit
set_option linter.unusedVariables false

set_option maxRecDepth 100000 in
set_option maxHeartbeats 4000000 in
theorem back7_nnn (k n c : Int) (w : World) (he : Eps w) (ht : Tab w) (hf : fits c) (ha : ctE k n ≠ 0) (hc : dyE k c ≠ 0) (hd : fvE n ≠ 0) :
    Calls Tryd.prog 6 #[.int .i64 k, .int .i64 n, .int .i64 c] w fun e w' => e = .returned (.bool true) ∧ Below w.heap.size w w' := by
  have HA := Lib.hid (malive_any w he)
  have E0 := Lib.hid he; have T0 := Lib.hid ht
  clear he ht
  have q0 := fun op t W x k => guard_ev op t W x k
  have q1 := fun W k => eql_ev W k
  have q2 := fun W k => neq_ev W k
  have HF := Lib.hid (fun w he ht => five7_any n w he ht)
  have HD := Lib.hid (fun w he => day7_any k c w he hf)
  have H1 := Lib.hid (fun w he => count7_any k n w he)
  have d1 : (fvE n != 0) = true := bne_iff_ne.2 hd
  clear hd
  generalize fvE n = F at *
  generalize (⟨(fvL n).toArray⟩ : ByteArray) = S at *

  have c1 : (dyE k c == 0) = false := beq_eq_false_iff_ne.2 hc
  clear hc
  generalize dyE k c = D at *
  generalize dyN k c = m at *

  have a1 : (ctE k n == 0) = false := beq_eq_false_iff_ne.2 ha
  clear ha hf
  generalize ctE k n = C at *
  generalize ctN k n = N at *
  go_enter Tryd.func6, Tryd.ntmps6
  go_wp2_with fail
  refine (HA.out).mono ?_
  rintro e w1 ⟨rfl, hb⟩
  have B1 := Lib.hid (hb)
  have E1 := Lib.hid (E0.out.below hb)
  have T1 := Lib.hid (T0.out.below hb)
  clear hb
  go_wp2_with fail
  refine (H1.out _ E1.out).mono ?_
  rintro e w2 ⟨rfl, hb⟩
  have B2 := Lib.hid (B1.out.trans (hb.mono B1.out.size))
  have E2 := Lib.hid (E1.out.below hb)
  have T2 := Lib.hid (T1.out.below hb)
  clear hb
  go_wp2_with fail
  refine (HD.out _ E2.out).mono ?_
  rintro e w3 ⟨rfl, hb⟩
  have B3 := Lib.hid (B2.out.trans (hb.mono B2.out.size))
  have E3 := Lib.hid (E2.out.below hb)
  have T3 := Lib.hid (T2.out.below hb)
  clear hb
  go_wp2_with fail
  refine (HF.out _ E3.out T3.out).mono ?_
  rintro e w4 ⟨rfl, hb⟩
  have B4 := Lib.hid (B3.out.trans (hb.mono B3.out.size))
  clear hb
  go_wp2_with fail
  go_ret
  exact ⟨rfl, B4.out⟩

set_option maxRecDepth 100000 in
set_option maxHeartbeats 4000000 in
theorem back7_nny (k n c : Int) (w : World) (he : Eps w) (ht : Tab w) (hf : fits c) (ha : ctE k n ≠ 0) (hc : dyE k c ≠ 0) (hd : fvE n = 0) :
    Calls Tryd.prog 6 #[.int .i64 k, .int .i64 n, .int .i64 c] w fun e w' => e = .returned (.bool true) ∧ Below w.heap.size w w' := by
  have HA := Lib.hid (malive_any w he)
  have E0 := Lib.hid he; have T0 := Lib.hid ht
  clear he ht
  have q0 := fun op t W x k => guard_ev op t W x k
  have q1 := fun W k => eql_ev W k
  have q2 := fun W k => neq_ev W k
  have HF := Lib.hid (fun w he ht => five7_any n w he ht)
  have HD := Lib.hid (fun w he => day7_any k c w he hf)
  have H1 := Lib.hid (fun w he => count7_any k n w he)
  obtain ⟨-, v1, v2, v3⟩ := fv_back hd
  have HP := Lib.hid (fun w he => parsefive_any ⟨(fvL n).toArray⟩ w he (by show (fvL n).toArray.size ≤ _; rw [List.size_toArray, v1]; decide))
  rw [show (⟨(fvL n).toArray⟩ : ByteArray).data.toList = fvL n from rfl, v2, v3] at HP
  have hl : (((⟨(fvL n).toArray⟩ : ByteArray).size : Nat) : Int) = 5 := by show (((fvL n).toArray.size : Nat) : Int) = 5; rw [List.size_toArray, v1]; rfl
  rw [hd] at HF
  clear v1 v2 v3 hd
  generalize (⟨(fvL n).toArray⟩ : ByteArray) = S at *

  have c1 : (dyE k c == 0) = false := beq_eq_false_iff_ne.2 hc
  clear hc
  generalize dyE k c = D at *
  generalize dyN k c = m at *

  have a1 : (ctE k n == 0) = false := beq_eq_false_iff_ne.2 ha
  clear ha hf
  generalize ctE k n = C at *
  generalize ctN k n = N at *
  go_enter Tryd.func6, Tryd.ntmps6
  go_wp2_with fail
  refine (HA.out).mono ?_
  rintro e w1 ⟨rfl, hb⟩
  have B1 := Lib.hid (hb)
  have E1 := Lib.hid (E0.out.below hb)
  have T1 := Lib.hid (T0.out.below hb)
  clear hb
  go_wp2_with fail
  refine (H1.out _ E1.out).mono ?_
  rintro e w2 ⟨rfl, hb⟩
  have B2 := Lib.hid (B1.out.trans (hb.mono B1.out.size))
  have E2 := Lib.hid (E1.out.below hb)
  have T2 := Lib.hid (T1.out.below hb)
  clear hb
  go_wp2_with fail
  refine (HD.out _ E2.out).mono ?_
  rintro e w3 ⟨rfl, hb⟩
  have B3 := Lib.hid (B2.out.trans (hb.mono B2.out.size))
  have E3 := Lib.hid (E2.out.below hb)
  have T3 := Lib.hid (T2.out.below hb)
  clear hb
  go_wp2_with fail
  refine (HF.out _ E3.out T3.out).mono ?_
  rintro e w4 ⟨rfl, hb⟩
  have B4 := Lib.hid (B3.out.trans (hb.mono B3.out.size))
  have E4 := Lib.hid (E3.out.below hb)
  clear hb
  go_wp2_with fail
  refine (HP.out _ E4.out).mono ?_
  rintro e w5 ⟨rfl, hb⟩
  have B5 := Lib.hid (B4.out.trans (hb.mono B4.out.size))
  clear hb
  go_wp2_with fail
  go_ret
  exact ⟨rfl, B5.out⟩

set_option maxRecDepth 100000 in
set_option maxHeartbeats 4000000 in
theorem back7_nyn (k n c : Int) (w : World) (he : Eps w) (ht : Tab w) (hf : fits c) (ha : ctE k n ≠ 0) (hc : dyE k c = 0) (hd : fvE n ≠ 0) :
    Calls Tryd.prog 6 #[.int .i64 k, .int .i64 n, .int .i64 c] w fun e w' => e = .returned (.bool true) ∧ Below w.heap.size w w' := by
  have HA := Lib.hid (malive_any w he)
  have E0 := Lib.hid he; have T0 := Lib.hid ht
  clear he ht
  have q0 := fun op t W x k => guard_ev op t W x k
  have q1 := fun W k => eql_ev W k
  have q2 := fun W k => neq_ev W k
  have HF := Lib.hid (fun w he ht => five7_any n w he ht)
  have HD := Lib.hid (fun w he => day7_any k c w he hf)
  have H1 := Lib.hid (fun w he => count7_any k n w he)
  have d1 : (fvE n != 0) = true := bne_iff_ne.2 hd
  clear hd
  generalize fvE n = F at *
  generalize (⟨(fvL n).toArray⟩ : ByteArray) = S at *

  obtain ⟨x1, x2⟩ := dy_ct hc
  have H4 := Lib.hid (fun w he => count7_any k (dyN k c) w he)
  rw [x1, x2] at H4
  rw [hc] at HD
  clear x1 x2 hc
  generalize dyN k c = m at *

  have a1 : (ctE k n == 0) = false := beq_eq_false_iff_ne.2 ha
  clear ha hf
  generalize ctE k n = C at *
  generalize ctN k n = N at *
  go_enter Tryd.func6, Tryd.ntmps6
  go_wp2_with fail
  refine (HA.out).mono ?_
  rintro e w1 ⟨rfl, hb⟩
  have B1 := Lib.hid (hb)
  have E1 := Lib.hid (E0.out.below hb)
  have T1 := Lib.hid (T0.out.below hb)
  clear hb
  go_wp2_with fail
  refine (H1.out _ E1.out).mono ?_
  rintro e w2 ⟨rfl, hb⟩
  have B2 := Lib.hid (B1.out.trans (hb.mono B1.out.size))
  have E2 := Lib.hid (E1.out.below hb)
  have T2 := Lib.hid (T1.out.below hb)
  clear hb
  go_wp2_with fail
  refine (HD.out _ E2.out).mono ?_
  rintro e w3 ⟨rfl, hb⟩
  have B3 := Lib.hid (B2.out.trans (hb.mono B2.out.size))
  have E3 := Lib.hid (E2.out.below hb)
  have T3 := Lib.hid (T2.out.below hb)
  clear hb
  go_wp2_with fail
  refine (H4.out _ E3.out).mono ?_
  rintro e w4 ⟨rfl, hb⟩
  have B4 := Lib.hid (B3.out.trans (hb.mono B3.out.size))
  have E4 := Lib.hid (E3.out.below hb)
  have T4 := Lib.hid (T3.out.below hb)
  clear hb
  go_wp2_with fail
  refine (HF.out _ E4.out T4.out).mono ?_
  rintro e w5 ⟨rfl, hb⟩
  have B5 := Lib.hid (B4.out.trans (hb.mono B4.out.size))
  clear hb
  go_wp2_with fail
  go_ret
  exact ⟨rfl, B5.out⟩

set_option maxRecDepth 100000 in
set_option maxHeartbeats 4000000 in
theorem back7_nyy (k n c : Int) (w : World) (he : Eps w) (ht : Tab w) (hf : fits c) (ha : ctE k n ≠ 0) (hc : dyE k c = 0) (hd : fvE n = 0) :
    Calls Tryd.prog 6 #[.int .i64 k, .int .i64 n, .int .i64 c] w fun e w' => e = .returned (.bool true) ∧ Below w.heap.size w w' := by
  have HA := Lib.hid (malive_any w he)
  have E0 := Lib.hid he; have T0 := Lib.hid ht
  clear he ht
  have q0 := fun op t W x k => guard_ev op t W x k
  have q1 := fun W k => eql_ev W k
  have q2 := fun W k => neq_ev W k
  have HF := Lib.hid (fun w he ht => five7_any n w he ht)
  have HD := Lib.hid (fun w he => day7_any k c w he hf)
  have H1 := Lib.hid (fun w he => count7_any k n w he)
  obtain ⟨-, v1, v2, v3⟩ := fv_back hd
  have HP := Lib.hid (fun w he => parsefive_any ⟨(fvL n).toArray⟩ w he (by show (fvL n).toArray.size ≤ _; rw [List.size_toArray, v1]; decide))
  rw [show (⟨(fvL n).toArray⟩ : ByteArray).data.toList = fvL n from rfl, v2, v3] at HP
  have hl : (((⟨(fvL n).toArray⟩ : ByteArray).size : Nat) : Int) = 5 := by show (((fvL n).toArray.size : Nat) : Int) = 5; rw [List.size_toArray, v1]; rfl
  rw [hd] at HF
  clear v1 v2 v3 hd
  generalize (⟨(fvL n).toArray⟩ : ByteArray) = S at *

  obtain ⟨x1, x2⟩ := dy_ct hc
  have H4 := Lib.hid (fun w he => count7_any k (dyN k c) w he)
  rw [x1, x2] at H4
  rw [hc] at HD
  clear x1 x2 hc
  generalize dyN k c = m at *

  have a1 : (ctE k n == 0) = false := beq_eq_false_iff_ne.2 ha
  clear ha hf
  generalize ctE k n = C at *
  generalize ctN k n = N at *
  go_enter Tryd.func6, Tryd.ntmps6
  go_wp2_with fail
  refine (HA.out).mono ?_
  rintro e w1 ⟨rfl, hb⟩
  have B1 := Lib.hid (hb)
  have E1 := Lib.hid (E0.out.below hb)
  have T1 := Lib.hid (T0.out.below hb)
  clear hb
  go_wp2_with fail
  refine (H1.out _ E1.out).mono ?_
  rintro e w2 ⟨rfl, hb⟩
  have B2 := Lib.hid (B1.out.trans (hb.mono B1.out.size))
  have E2 := Lib.hid (E1.out.below hb)
  have T2 := Lib.hid (T1.out.below hb)
  clear hb
  go_wp2_with fail
  refine (HD.out _ E2.out).mono ?_
  rintro e w3 ⟨rfl, hb⟩
  have B3 := Lib.hid (B2.out.trans (hb.mono B2.out.size))
  have E3 := Lib.hid (E2.out.below hb)
  have T3 := Lib.hid (T2.out.below hb)
  clear hb
  go_wp2_with fail
  refine (H4.out _ E3.out).mono ?_
  rintro e w4 ⟨rfl, hb⟩
  have B4 := Lib.hid (B3.out.trans (hb.mono B3.out.size))
  have E4 := Lib.hid (E3.out.below hb)
  have T4 := Lib.hid (T3.out.below hb)
  clear hb
  go_wp2_with fail
  refine (HF.out _ E4.out T4.out).mono ?_
  rintro e w5 ⟨rfl, hb⟩
  have B5 := Lib.hid (B4.out.trans (hb.mono B4.out.size))
  have E5 := Lib.hid (E4.out.below hb)
  clear hb
  go_wp2_with fail
  refine (HP.out _ E5.out).mono ?_
  rintro e w6 ⟨rfl, hb⟩
  have B6 := Lib.hid (B5.out.trans (hb.mono B5.out.size))
  clear hb
  go_wp2_with fail
  go_ret
  exact ⟨rfl, B6.out⟩

set_option maxRecDepth 100000 in
set_option maxHeartbeats 4000000 in
theorem back7_ynn (k n c : Int) (w : World) (he : Eps w) (ht : Tab w) (hf : fits c) (ha : ctE k n = 0) (hb0 : ctE k (n + 1) = 0) (hc : dyE k c ≠ 0) (hd : fvE n ≠ 0) :
    Calls Tryd.prog 6 #[.int .i64 k, .int .i64 n, .int .i64 c] w fun e w' => e = .returned (.bool true) ∧ Below w.heap.size w w' := by
  have HA := Lib.hid (malive_any w he)
  have E0 := Lib.hid he; have T0 := Lib.hid ht
  clear he ht
  have q0 := fun op t W x k => guard_ev op t W x k
  have q1 := fun W k => eql_ev W k
  have q2 := fun W k => neq_ev W k
  have HF := Lib.hid (fun w he ht => five7_any n w he ht)
  have HD := Lib.hid (fun w he => day7_any k c w he hf)
  have H1 := Lib.hid (fun w he => count7_any k n w he)
  have d1 : (fvE n != 0) = true := bne_iff_ne.2 hd
  clear hd
  generalize fvE n = F at *
  generalize (⟨(fvL n).toArray⟩ : ByteArray) = S at *

  have c1 : (dyE k c == 0) = false := beq_eq_false_iff_ne.2 hc
  clear hc
  generalize dyE k c = D at *
  generalize dyN k c = m at *

  obtain ⟨y1, y2⟩ := ct_dy ha
  have hn := ct_in ha
  have hN := ctN_fit k n
  have H2 := Lib.hid (fun w he => day7_any k (ctN k n) w he hN)
  have H3 := Lib.hid (fun w he => count7_any k (n + 1) w he)
  rw [y1, y2] at H2
  rw [ha] at H1

  rw [ct_next ha hb0, hb0] at H3
  have hN1 := ctN_fit k (n + 1)
  rw [ct_next ha hb0] at hN1
  unfold fits at hN hN1
  clear y1 y2 ha hb0 hf
  generalize ctN k n = N at *
  go_enter Tryd.func6, Tryd.ntmps6
  go_wp2_with fail
  refine (HA.out).mono ?_
  rintro e w1 ⟨rfl, hb⟩
  have B1 := Lib.hid (hb)
  have E1 := Lib.hid (E0.out.below hb)
  have T1 := Lib.hid (T0.out.below hb)
  clear hb
  go_wp2_with fail
  refine (H1.out _ E1.out).mono ?_
  rintro e w2 ⟨rfl, hb⟩
  have B2 := Lib.hid (B1.out.trans (hb.mono B1.out.size))
  have E2 := Lib.hid (E1.out.below hb)
  have T2 := Lib.hid (T1.out.below hb)
  clear hb
  go_wp2_with fail
  refine (H2.out _ E2.out).mono ?_
  rintro e w3 ⟨rfl, hb⟩
  have B3 := Lib.hid (B2.out.trans (hb.mono B2.out.size))
  have E3 := Lib.hid (E2.out.below hb)
  have T3 := Lib.hid (T2.out.below hb)
  clear hb
  go_wp2_with fail
  refine (H3.out _ E3.out).mono ?_
  rintro e w4 ⟨rfl, hb⟩
  have B4 := Lib.hid (B3.out.trans (hb.mono B3.out.size))
  have E4 := Lib.hid (E3.out.below hb)
  have T4 := Lib.hid (T3.out.below hb)
  clear hb
  go_wp2_with fail
  refine (HD.out _ E4.out).mono ?_
  rintro e w5 ⟨rfl, hb⟩
  have B5 := Lib.hid (B4.out.trans (hb.mono B4.out.size))
  have E5 := Lib.hid (E4.out.below hb)
  have T5 := Lib.hid (T4.out.below hb)
  clear hb
  go_wp2_with fail
  refine (HF.out _ E5.out T5.out).mono ?_
  rintro e w6 ⟨rfl, hb⟩
  have B6 := Lib.hid (B5.out.trans (hb.mono B5.out.size))
  clear hb
  go_wp2_with fail
  go_ret
  exact ⟨rfl, B6.out⟩

set_option maxRecDepth 100000 in
set_option maxHeartbeats 4000000 in
theorem back7_yny (k n c : Int) (w : World) (he : Eps w) (ht : Tab w) (hf : fits c) (ha : ctE k n = 0) (hb0 : ctE k (n + 1) = 0) (hc : dyE k c ≠ 0) (hd : fvE n = 0) :
    Calls Tryd.prog 6 #[.int .i64 k, .int .i64 n, .int .i64 c] w fun e w' => e = .returned (.bool true) ∧ Below w.heap.size w w' := by
  have HA := Lib.hid (malive_any w he)
  have E0 := Lib.hid he; have T0 := Lib.hid ht
  clear he ht
  have q0 := fun op t W x k => guard_ev op t W x k
  have q1 := fun W k => eql_ev W k
  have q2 := fun W k => neq_ev W k
  have HF := Lib.hid (fun w he ht => five7_any n w he ht)
  have HD := Lib.hid (fun w he => day7_any k c w he hf)
  have H1 := Lib.hid (fun w he => count7_any k n w he)
  obtain ⟨-, v1, v2, v3⟩ := fv_back hd
  have HP := Lib.hid (fun w he => parsefive_any ⟨(fvL n).toArray⟩ w he (by show (fvL n).toArray.size ≤ _; rw [List.size_toArray, v1]; decide))
  rw [show (⟨(fvL n).toArray⟩ : ByteArray).data.toList = fvL n from rfl, v2, v3] at HP
  have hl : (((⟨(fvL n).toArray⟩ : ByteArray).size : Nat) : Int) = 5 := by show (((fvL n).toArray.size : Nat) : Int) = 5; rw [List.size_toArray, v1]; rfl
  rw [hd] at HF
  clear v1 v2 v3 hd
  generalize (⟨(fvL n).toArray⟩ : ByteArray) = S at *

  have c1 : (dyE k c == 0) = false := beq_eq_false_iff_ne.2 hc
  clear hc
  generalize dyE k c = D at *
  generalize dyN k c = m at *

  obtain ⟨y1, y2⟩ := ct_dy ha
  have hn := ct_in ha
  have hN := ctN_fit k n
  have H2 := Lib.hid (fun w he => day7_any k (ctN k n) w he hN)
  have H3 := Lib.hid (fun w he => count7_any k (n + 1) w he)
  rw [y1, y2] at H2
  rw [ha] at H1

  rw [ct_next ha hb0, hb0] at H3
  have hN1 := ctN_fit k (n + 1)
  rw [ct_next ha hb0] at hN1
  unfold fits at hN hN1
  clear y1 y2 ha hb0 hf
  generalize ctN k n = N at *
  go_enter Tryd.func6, Tryd.ntmps6
  go_wp2_with fail
  refine (HA.out).mono ?_
  rintro e w1 ⟨rfl, hb⟩
  have B1 := Lib.hid (hb)
  have E1 := Lib.hid (E0.out.below hb)
  have T1 := Lib.hid (T0.out.below hb)
  clear hb
  go_wp2_with fail
  refine (H1.out _ E1.out).mono ?_
  rintro e w2 ⟨rfl, hb⟩
  have B2 := Lib.hid (B1.out.trans (hb.mono B1.out.size))
  have E2 := Lib.hid (E1.out.below hb)
  have T2 := Lib.hid (T1.out.below hb)
  clear hb
  go_wp2_with fail
  refine (H2.out _ E2.out).mono ?_
  rintro e w3 ⟨rfl, hb⟩
  have B3 := Lib.hid (B2.out.trans (hb.mono B2.out.size))
  have E3 := Lib.hid (E2.out.below hb)
  have T3 := Lib.hid (T2.out.below hb)
  clear hb
  go_wp2_with fail
  refine (H3.out _ E3.out).mono ?_
  rintro e w4 ⟨rfl, hb⟩
  have B4 := Lib.hid (B3.out.trans (hb.mono B3.out.size))
  have E4 := Lib.hid (E3.out.below hb)
  have T4 := Lib.hid (T3.out.below hb)
  clear hb
  go_wp2_with fail
  refine (HD.out _ E4.out).mono ?_
  rintro e w5 ⟨rfl, hb⟩
  have B5 := Lib.hid (B4.out.trans (hb.mono B4.out.size))
  have E5 := Lib.hid (E4.out.below hb)
  have T5 := Lib.hid (T4.out.below hb)
  clear hb
  go_wp2_with fail
  refine (HF.out _ E5.out T5.out).mono ?_
  rintro e w6 ⟨rfl, hb⟩
  have B6 := Lib.hid (B5.out.trans (hb.mono B5.out.size))
  have E6 := Lib.hid (E5.out.below hb)
  clear hb
  go_wp2_with fail
  refine (HP.out _ E6.out).mono ?_
  rintro e w7 ⟨rfl, hb⟩
  have B7 := Lib.hid (B6.out.trans (hb.mono B6.out.size))
  clear hb
  go_wp2_with fail
  go_ret
  exact ⟨rfl, B7.out⟩

set_option maxRecDepth 100000 in
set_option maxHeartbeats 4000000 in
theorem back7_yyn (k n c : Int) (w : World) (he : Eps w) (ht : Tab w) (hf : fits c) (ha : ctE k n = 0) (hb0 : ctE k (n + 1) = 0) (hc : dyE k c = 0) (hd : fvE n ≠ 0) :
    Calls Tryd.prog 6 #[.int .i64 k, .int .i64 n, .int .i64 c] w fun e w' => e = .returned (.bool true) ∧ Below w.heap.size w w' := by
  have HA := Lib.hid (malive_any w he)
  have E0 := Lib.hid he; have T0 := Lib.hid ht
  clear he ht
  have q0 := fun op t W x k => guard_ev op t W x k
  have q1 := fun W k => eql_ev W k
  have q2 := fun W k => neq_ev W k
  have HF := Lib.hid (fun w he ht => five7_any n w he ht)
  have HD := Lib.hid (fun w he => day7_any k c w he hf)
  have H1 := Lib.hid (fun w he => count7_any k n w he)
  have d1 : (fvE n != 0) = true := bne_iff_ne.2 hd
  clear hd
  generalize fvE n = F at *
  generalize (⟨(fvL n).toArray⟩ : ByteArray) = S at *

  obtain ⟨x1, x2⟩ := dy_ct hc
  have H4 := Lib.hid (fun w he => count7_any k (dyN k c) w he)
  rw [x1, x2] at H4
  rw [hc] at HD
  clear x1 x2 hc
  generalize dyN k c = m at *

  obtain ⟨y1, y2⟩ := ct_dy ha
  have hn := ct_in ha
  have hN := ctN_fit k n
  have H2 := Lib.hid (fun w he => day7_any k (ctN k n) w he hN)
  have H3 := Lib.hid (fun w he => count7_any k (n + 1) w he)
  rw [y1, y2] at H2
  rw [ha] at H1

  rw [ct_next ha hb0, hb0] at H3
  have hN1 := ctN_fit k (n + 1)
  rw [ct_next ha hb0] at hN1
  unfold fits at hN hN1
  clear y1 y2 ha hb0 hf
  generalize ctN k n = N at *
  go_enter Tryd.func6, Tryd.ntmps6
  go_wp2_with fail
  refine (HA.out).mono ?_
  rintro e w1 ⟨rfl, hb⟩
  have B1 := Lib.hid (hb)
  have E1 := Lib.hid (E0.out.below hb)
  have T1 := Lib.hid (T0.out.below hb)
  clear hb
  go_wp2_with fail
  refine (H1.out _ E1.out).mono ?_
  rintro e w2 ⟨rfl, hb⟩
  have B2 := Lib.hid (B1.out.trans (hb.mono B1.out.size))
  have E2 := Lib.hid (E1.out.below hb)
  have T2 := Lib.hid (T1.out.below hb)
  clear hb
  go_wp2_with fail
  refine (H2.out _ E2.out).mono ?_
  rintro e w3 ⟨rfl, hb⟩
  have B3 := Lib.hid (B2.out.trans (hb.mono B2.out.size))
  have E3 := Lib.hid (E2.out.below hb)
  have T3 := Lib.hid (T2.out.below hb)
  clear hb
  go_wp2_with fail
  refine (H3.out _ E3.out).mono ?_
  rintro e w4 ⟨rfl, hb⟩
  have B4 := Lib.hid (B3.out.trans (hb.mono B3.out.size))
  have E4 := Lib.hid (E3.out.below hb)
  have T4 := Lib.hid (T3.out.below hb)
  clear hb
  go_wp2_with fail
  refine (HD.out _ E4.out).mono ?_
  rintro e w5 ⟨rfl, hb⟩
  have B5 := Lib.hid (B4.out.trans (hb.mono B4.out.size))
  have E5 := Lib.hid (E4.out.below hb)
  have T5 := Lib.hid (T4.out.below hb)
  clear hb
  go_wp2_with fail
  refine (H4.out _ E5.out).mono ?_
  rintro e w6 ⟨rfl, hb⟩
  have B6 := Lib.hid (B5.out.trans (hb.mono B5.out.size))
  have E6 := Lib.hid (E5.out.below hb)
  have T6 := Lib.hid (T5.out.below hb)
  clear hb
  go_wp2_with fail
  refine (HF.out _ E6.out T6.out).mono ?_
  rintro e w7 ⟨rfl, hb⟩
  have B7 := Lib.hid (B6.out.trans (hb.mono B6.out.size))
  clear hb
  go_wp2_with fail
  go_ret
  exact ⟨rfl, B7.out⟩

set_option maxRecDepth 100000 in
set_option maxHeartbeats 4000000 in
theorem back7_yyy (k n c : Int) (w : World) (he : Eps w) (ht : Tab w) (hf : fits c) (ha : ctE k n = 0) (hb0 : ctE k (n + 1) = 0) (hc : dyE k c = 0) (hd : fvE n = 0) :
    Calls Tryd.prog 6 #[.int .i64 k, .int .i64 n, .int .i64 c] w fun e w' => e = .returned (.bool true) ∧ Below w.heap.size w w' := by
  have HA := Lib.hid (malive_any w he)
  have E0 := Lib.hid he; have T0 := Lib.hid ht
  clear he ht
  have q0 := fun op t W x k => guard_ev op t W x k
  have q1 := fun W k => eql_ev W k
  have q2 := fun W k => neq_ev W k
  have HF := Lib.hid (fun w he ht => five7_any n w he ht)
  have HD := Lib.hid (fun w he => day7_any k c w he hf)
  have H1 := Lib.hid (fun w he => count7_any k n w he)
  obtain ⟨-, v1, v2, v3⟩ := fv_back hd
  have HP := Lib.hid (fun w he => parsefive_any ⟨(fvL n).toArray⟩ w he (by show (fvL n).toArray.size ≤ _; rw [List.size_toArray, v1]; decide))
  rw [show (⟨(fvL n).toArray⟩ : ByteArray).data.toList = fvL n from rfl, v2, v3] at HP
  have hl : (((⟨(fvL n).toArray⟩ : ByteArray).size : Nat) : Int) = 5 := by show (((fvL n).toArray.size : Nat) : Int) = 5; rw [List.size_toArray, v1]; rfl
  rw [hd] at HF
  clear v1 v2 v3 hd
  generalize (⟨(fvL n).toArray⟩ : ByteArray) = S at *

  obtain ⟨x1, x2⟩ := dy_ct hc
  have H4 := Lib.hid (fun w he => count7_any k (dyN k c) w he)
  rw [x1, x2] at H4
  rw [hc] at HD
  clear x1 x2 hc
  generalize dyN k c = m at *

  obtain ⟨y1, y2⟩ := ct_dy ha
  have hn := ct_in ha
  have hN := ctN_fit k n
  have H2 := Lib.hid (fun w he => day7_any k (ctN k n) w he hN)
  have H3 := Lib.hid (fun w he => count7_any k (n + 1) w he)
  rw [y1, y2] at H2
  rw [ha] at H1

  rw [ct_next ha hb0, hb0] at H3
  have hN1 := ctN_fit k (n + 1)
  rw [ct_next ha hb0] at hN1
  unfold fits at hN hN1
  clear y1 y2 ha hb0 hf
  generalize ctN k n = N at *
  go_enter Tryd.func6, Tryd.ntmps6
  go_wp2_with fail
  refine (HA.out).mono ?_
  rintro e w1 ⟨rfl, hb⟩
  have B1 := Lib.hid (hb)
  have E1 := Lib.hid (E0.out.below hb)
  have T1 := Lib.hid (T0.out.below hb)
  clear hb
  go_wp2_with fail
  refine (H1.out _ E1.out).mono ?_
  rintro e w2 ⟨rfl, hb⟩
  have B2 := Lib.hid (B1.out.trans (hb.mono B1.out.size))
  have E2 := Lib.hid (E1.out.below hb)
  have T2 := Lib.hid (T1.out.below hb)
  clear hb
  go_wp2_with fail
  refine (H2.out _ E2.out).mono ?_
  rintro e w3 ⟨rfl, hb⟩
  have B3 := Lib.hid (B2.out.trans (hb.mono B2.out.size))
  have E3 := Lib.hid (E2.out.below hb)
  have T3 := Lib.hid (T2.out.below hb)
  clear hb
  go_wp2_with fail
  refine (H3.out _ E3.out).mono ?_
  rintro e w4 ⟨rfl, hb⟩
  have B4 := Lib.hid (B3.out.trans (hb.mono B3.out.size))
  have E4 := Lib.hid (E3.out.below hb)
  have T4 := Lib.hid (T3.out.below hb)
  clear hb
  go_wp2_with fail
  refine (HD.out _ E4.out).mono ?_
  rintro e w5 ⟨rfl, hb⟩
  have B5 := Lib.hid (B4.out.trans (hb.mono B4.out.size))
  have E5 := Lib.hid (E4.out.below hb)
  have T5 := Lib.hid (T4.out.below hb)
  clear hb
  go_wp2_with fail
  refine (H4.out _ E5.out).mono ?_
  rintro e w6 ⟨rfl, hb⟩
  have B6 := Lib.hid (B5.out.trans (hb.mono B5.out.size))
  have E6 := Lib.hid (E5.out.below hb)
  have T6 := Lib.hid (T5.out.below hb)
  clear hb
  go_wp2_with fail
  refine (HF.out _ E6.out T6.out).mono ?_
  rintro e w7 ⟨rfl, hb⟩
  have B7 := Lib.hid (B6.out.trans (hb.mono B6.out.size))
  have E7 := Lib.hid (E6.out.below hb)
  clear hb
  go_wp2_with fail
  refine (HP.out _ E7.out).mono ?_
  rintro e w8 ⟨rfl, hb⟩
  have B8 := Lib.hid (B7.out.trans (hb.mono B7.out.size))
  clear hb
  go_wp2_with fail
  go_ret
  exact ⟨rfl, B8.out⟩

set_option maxRecDepth 100000 in
set_option maxHeartbeats 4000000 in
theorem back7_znn (k n c : Int) (w : World) (he : Eps w) (ht : Tab w) (hf : fits c) (ha : ctE k n = 0) (hb0 : ctE k (n + 1) ≠ 0) (hc : dyE k c ≠ 0) (hd : fvE n ≠ 0) :
    Calls Tryd.prog 6 #[.int .i64 k, .int .i64 n, .int .i64 c] w fun e w' => e = .returned (.bool true) ∧ Below w.heap.size w w' := by
  have HA := Lib.hid (malive_any w he)
  have E0 := Lib.hid he; have T0 := Lib.hid ht
  clear he ht
  have q0 := fun op t W x k => guard_ev op t W x k
  have q1 := fun W k => eql_ev W k
  have q2 := fun W k => neq_ev W k
  have HF := Lib.hid (fun w he ht => five7_any n w he ht)
  have HD := Lib.hid (fun w he => day7_any k c w he hf)
  have H1 := Lib.hid (fun w he => count7_any k n w he)
  have d1 : (fvE n != 0) = true := bne_iff_ne.2 hd
  clear hd
  generalize fvE n = F at *
  generalize (⟨(fvL n).toArray⟩ : ByteArray) = S at *

  have c1 : (dyE k c == 0) = false := beq_eq_false_iff_ne.2 hc
  clear hc
  generalize dyE k c = D at *
  generalize dyN k c = m at *

  obtain ⟨y1, y2⟩ := ct_dy ha
  have hn := ct_in ha
  have hN := ctN_fit k n
  have H2 := Lib.hid (fun w he => day7_any k (ctN k n) w he hN)
  have H3 := Lib.hid (fun w he => count7_any k (n + 1) w he)
  rw [y1, y2] at H2
  rw [ha] at H1

  have a2 : (ctE k (n + 1) == 0) = false := beq_eq_false_iff_ne.2 hb0
  clear y1 y2 ha hb0 hf hN
  generalize ctN k (n + 1) = M at *
  generalize ctE k (n + 1) = C at *
  generalize ctN k n = N at *
  go_enter Tryd.func6, Tryd.ntmps6
  go_wp2_with fail
  refine (HA.out).mono ?_
  rintro e w1 ⟨rfl, hb⟩
  have B1 := Lib.hid (hb)
  have E1 := Lib.hid (E0.out.below hb)
  have T1 := Lib.hid (T0.out.below hb)
  clear hb
  go_wp2_with fail
  refine (H1.out _ E1.out).mono ?_
  rintro e w2 ⟨rfl, hb⟩
  have B2 := Lib.hid (B1.out.trans (hb.mono B1.out.size))
  have E2 := Lib.hid (E1.out.below hb)
  have T2 := Lib.hid (T1.out.below hb)
  clear hb
  go_wp2_with fail
  refine (H2.out _ E2.out).mono ?_
  rintro e w3 ⟨rfl, hb⟩
  have B3 := Lib.hid (B2.out.trans (hb.mono B2.out.size))
  have E3 := Lib.hid (E2.out.below hb)
  have T3 := Lib.hid (T2.out.below hb)
  clear hb
  go_wp2_with fail
  refine (H3.out _ E3.out).mono ?_
  rintro e w4 ⟨rfl, hb⟩
  have B4 := Lib.hid (B3.out.trans (hb.mono B3.out.size))
  have E4 := Lib.hid (E3.out.below hb)
  have T4 := Lib.hid (T3.out.below hb)
  clear hb
  go_wp2_with fail
  refine (HD.out _ E4.out).mono ?_
  rintro e w5 ⟨rfl, hb⟩
  have B5 := Lib.hid (B4.out.trans (hb.mono B4.out.size))
  have E5 := Lib.hid (E4.out.below hb)
  have T5 := Lib.hid (T4.out.below hb)
  clear hb
  go_wp2_with fail
  refine (HF.out _ E5.out T5.out).mono ?_
  rintro e w6 ⟨rfl, hb⟩
  have B6 := Lib.hid (B5.out.trans (hb.mono B5.out.size))
  clear hb
  go_wp2_with fail
  go_ret
  exact ⟨rfl, B6.out⟩

set_option maxRecDepth 100000 in
set_option maxHeartbeats 4000000 in
theorem back7_zny (k n c : Int) (w : World) (he : Eps w) (ht : Tab w) (hf : fits c) (ha : ctE k n = 0) (hb0 : ctE k (n + 1) ≠ 0) (hc : dyE k c ≠ 0) (hd : fvE n = 0) :
    Calls Tryd.prog 6 #[.int .i64 k, .int .i64 n, .int .i64 c] w fun e w' => e = .returned (.bool true) ∧ Below w.heap.size w w' := by
  have HA := Lib.hid (malive_any w he)
  have E0 := Lib.hid he; have T0 := Lib.hid ht
  clear he ht
  have q0 := fun op t W x k => guard_ev op t W x k
  have q1 := fun W k => eql_ev W k
  have q2 := fun W k => neq_ev W k
  have HF := Lib.hid (fun w he ht => five7_any n w he ht)
  have HD := Lib.hid (fun w he => day7_any k c w he hf)
  have H1 := Lib.hid (fun w he => count7_any k n w he)
  obtain ⟨-, v1, v2, v3⟩ := fv_back hd
  have HP := Lib.hid (fun w he => parsefive_any ⟨(fvL n).toArray⟩ w he (by show (fvL n).toArray.size ≤ _; rw [List.size_toArray, v1]; decide))
  rw [show (⟨(fvL n).toArray⟩ : ByteArray).data.toList = fvL n from rfl, v2, v3] at HP
  have hl : (((⟨(fvL n).toArray⟩ : ByteArray).size : Nat) : Int) = 5 := by show (((fvL n).toArray.size : Nat) : Int) = 5; rw [List.size_toArray, v1]; rfl
  rw [hd] at HF
  clear v1 v2 v3 hd
  generalize (⟨(fvL n).toArray⟩ : ByteArray) = S at *

  have c1 : (dyE k c == 0) = false := beq_eq_false_iff_ne.2 hc
  clear hc
  generalize dyE k c = D at *
  generalize dyN k c = m at *

  obtain ⟨y1, y2⟩ := ct_dy ha
  have hn := ct_in ha
  have hN := ctN_fit k n
  have H2 := Lib.hid (fun w he => day7_any k (ctN k n) w he hN)
  have H3 := Lib.hid (fun w he => count7_any k (n + 1) w he)
  rw [y1, y2] at H2
  rw [ha] at H1

  have a2 : (ctE k (n + 1) == 0) = false := beq_eq_false_iff_ne.2 hb0
  clear y1 y2 ha hb0 hf hN
  generalize ctN k (n + 1) = M at *
  generalize ctE k (n + 1) = C at *
  generalize ctN k n = N at *
  go_enter Tryd.func6, Tryd.ntmps6
  go_wp2_with fail
  refine (HA.out).mono ?_
  rintro e w1 ⟨rfl, hb⟩
  have B1 := Lib.hid (hb)
  have E1 := Lib.hid (E0.out.below hb)
  have T1 := Lib.hid (T0.out.below hb)
  clear hb
  go_wp2_with fail
  refine (H1.out _ E1.out).mono ?_
  rintro e w2 ⟨rfl, hb⟩
  have B2 := Lib.hid (B1.out.trans (hb.mono B1.out.size))
  have E2 := Lib.hid (E1.out.below hb)
  have T2 := Lib.hid (T1.out.below hb)
  clear hb
  go_wp2_with fail
  refine (H2.out _ E2.out).mono ?_
  rintro e w3 ⟨rfl, hb⟩
  have B3 := Lib.hid (B2.out.trans (hb.mono B2.out.size))
  have E3 := Lib.hid (E2.out.below hb)
  have T3 := Lib.hid (T2.out.below hb)
  clear hb
  go_wp2_with fail
  refine (H3.out _ E3.out).mono ?_
  rintro e w4 ⟨rfl, hb⟩
  have B4 := Lib.hid (B3.out.trans (hb.mono B3.out.size))
  have E4 := Lib.hid (E3.out.below hb)
  have T4 := Lib.hid (T3.out.below hb)
  clear hb
  go_wp2_with fail
  refine (HD.out _ E4.out).mono ?_
  rintro e w5 ⟨rfl, hb⟩
  have B5 := Lib.hid (B4.out.trans (hb.mono B4.out.size))
  have E5 := Lib.hid (E4.out.below hb)
  have T5 := Lib.hid (T4.out.below hb)
  clear hb
  go_wp2_with fail
  refine (HF.out _ E5.out T5.out).mono ?_
  rintro e w6 ⟨rfl, hb⟩
  have B6 := Lib.hid (B5.out.trans (hb.mono B5.out.size))
  have E6 := Lib.hid (E5.out.below hb)
  clear hb
  go_wp2_with fail
  refine (HP.out _ E6.out).mono ?_
  rintro e w7 ⟨rfl, hb⟩
  have B7 := Lib.hid (B6.out.trans (hb.mono B6.out.size))
  clear hb
  go_wp2_with fail
  go_ret
  exact ⟨rfl, B7.out⟩

set_option maxRecDepth 100000 in
set_option maxHeartbeats 4000000 in
theorem back7_zyn (k n c : Int) (w : World) (he : Eps w) (ht : Tab w) (hf : fits c) (ha : ctE k n = 0) (hb0 : ctE k (n + 1) ≠ 0) (hc : dyE k c = 0) (hd : fvE n ≠ 0) :
    Calls Tryd.prog 6 #[.int .i64 k, .int .i64 n, .int .i64 c] w fun e w' => e = .returned (.bool true) ∧ Below w.heap.size w w' := by
  have HA := Lib.hid (malive_any w he)
  have E0 := Lib.hid he; have T0 := Lib.hid ht
  clear he ht
  have q0 := fun op t W x k => guard_ev op t W x k
  have q1 := fun W k => eql_ev W k
  have q2 := fun W k => neq_ev W k
  have HF := Lib.hid (fun w he ht => five7_any n w he ht)
  have HD := Lib.hid (fun w he => day7_any k c w he hf)
  have H1 := Lib.hid (fun w he => count7_any k n w he)
  have d1 : (fvE n != 0) = true := bne_iff_ne.2 hd
  clear hd
  generalize fvE n = F at *
  generalize (⟨(fvL n).toArray⟩ : ByteArray) = S at *

  obtain ⟨x1, x2⟩ := dy_ct hc
  have H4 := Lib.hid (fun w he => count7_any k (dyN k c) w he)
  rw [x1, x2] at H4
  rw [hc] at HD
  clear x1 x2 hc
  generalize dyN k c = m at *

  obtain ⟨y1, y2⟩ := ct_dy ha
  have hn := ct_in ha
  have hN := ctN_fit k n
  have H2 := Lib.hid (fun w he => day7_any k (ctN k n) w he hN)
  have H3 := Lib.hid (fun w he => count7_any k (n + 1) w he)
  rw [y1, y2] at H2
  rw [ha] at H1

  have a2 : (ctE k (n + 1) == 0) = false := beq_eq_false_iff_ne.2 hb0
  clear y1 y2 ha hb0 hf hN
  generalize ctN k (n + 1) = M at *
  generalize ctE k (n + 1) = C at *
  generalize ctN k n = N at *
  go_enter Tryd.func6, Tryd.ntmps6
  go_wp2_with fail
  refine (HA.out).mono ?_
  rintro e w1 ⟨rfl, hb⟩
  have B1 := Lib.hid (hb)
  have E1 := Lib.hid (E0.out.below hb)
  have T1 := Lib.hid (T0.out.below hb)
  clear hb
  go_wp2_with fail
  refine (H1.out _ E1.out).mono ?_
  rintro e w2 ⟨rfl, hb⟩
  have B2 := Lib.hid (B1.out.trans (hb.mono B1.out.size))
  have E2 := Lib.hid (E1.out.below hb)
  have T2 := Lib.hid (T1.out.below hb)
  clear hb
  go_wp2_with fail
  refine (H2.out _ E2.out).mono ?_
  rintro e w3 ⟨rfl, hb⟩
  have B3 := Lib.hid (B2.out.trans (hb.mono B2.out.size))
  have E3 := Lib.hid (E2.out.below hb)
  have T3 := Lib.hid (T2.out.below hb)
  clear hb
  go_wp2_with fail
  refine (H3.out _ E3.out).mono ?_
  rintro e w4 ⟨rfl, hb⟩
  have B4 := Lib.hid (B3.out.trans (hb.mono B3.out.size))
  have E4 := Lib.hid (E3.out.below hb)
  have T4 := Lib.hid (T3.out.below hb)
  clear hb
  go_wp2_with fail
  refine (HD.out _ E4.out).mono ?_
  rintro e w5 ⟨rfl, hb⟩
  have B5 := Lib.hid (B4.out.trans (hb.mono B4.out.size))
  have E5 := Lib.hid (E4.out.below hb)
  have T5 := Lib.hid (T4.out.below hb)
  clear hb
  go_wp2_with fail
  refine (H4.out _ E5.out).mono ?_
  rintro e w6 ⟨rfl, hb⟩
  have B6 := Lib.hid (B5.out.trans (hb.mono B5.out.size))
  have E6 := Lib.hid (E5.out.below hb)
  have T6 := Lib.hid (T5.out.below hb)
  clear hb
  go_wp2_with fail
  refine (HF.out _ E6.out T6.out).mono ?_
  rintro e w7 ⟨rfl, hb⟩
  have B7 := Lib.hid (B6.out.trans (hb.mono B6.out.size))
  clear hb
  go_wp2_with fail
  go_ret
  exact ⟨rfl, B7.out⟩

set_option maxRecDepth 100000 in
set_option maxHeartbeats 4000000 in
theorem back7_zyy (k n c : Int) (w : World) (he : Eps w) (ht : Tab w) (hf : fits c) (ha : ctE k n = 0) (hb0 : ctE k (n + 1) ≠ 0) (hc : dyE k c = 0) (hd : fvE n = 0) :
    Calls Tryd.prog 6 #[.int .i64 k, .int .i64 n, .int .i64 c] w fun e w' => e = .returned (.bool true) ∧ Below w.heap.size w w' := by
  have HA := Lib.hid (malive_any w he)
  have E0 := Lib.hid he; have T0 := Lib.hid ht
  clear he ht
  have q0 := fun op t W x k => guard_ev op t W x k
  have q1 := fun W k => eql_ev W k
  have q2 := fun W k => neq_ev W k
  have HF := Lib.hid (fun w he ht => five7_any n w he ht)
  have HD := Lib.hid (fun w he => day7_any k c w he hf)
  have H1 := Lib.hid (fun w he => count7_any k n w he)
  obtain ⟨-, v1, v2, v3⟩ := fv_back hd
  have HP := Lib.hid (fun w he => parsefive_any ⟨(fvL n).toArray⟩ w he (by show (fvL n).toArray.size ≤ _; rw [List.size_toArray, v1]; decide))
  rw [show (⟨(fvL n).toArray⟩ : ByteArray).data.toList = fvL n from rfl, v2, v3] at HP
  have hl : (((⟨(fvL n).toArray⟩ : ByteArray).size : Nat) : Int) = 5 := by show (((fvL n).toArray.size : Nat) : Int) = 5; rw [List.size_toArray, v1]; rfl
  rw [hd] at HF
  clear v1 v2 v3 hd
  generalize (⟨(fvL n).toArray⟩ : ByteArray) = S at *

  obtain ⟨x1, x2⟩ := dy_ct hc
  have H4 := Lib.hid (fun w he => count7_any k (dyN k c) w he)
  rw [x1, x2] at H4
  rw [hc] at HD
  clear x1 x2 hc
  generalize dyN k c = m at *

  obtain ⟨y1, y2⟩ := ct_dy ha
  have hn := ct_in ha
  have hN := ctN_fit k n
  have H2 := Lib.hid (fun w he => day7_any k (ctN k n) w he hN)
  have H3 := Lib.hid (fun w he => count7_any k (n + 1) w he)
  rw [y1, y2] at H2
  rw [ha] at H1

  have a2 : (ctE k (n + 1) == 0) = false := beq_eq_false_iff_ne.2 hb0
  clear y1 y2 ha hb0 hf hN
  generalize ctN k (n + 1) = M at *
  generalize ctE k (n + 1) = C at *
  generalize ctN k n = N at *
  go_enter Tryd.func6, Tryd.ntmps6
  go_wp2_with fail
  refine (HA.out).mono ?_
  rintro e w1 ⟨rfl, hb⟩
  have B1 := Lib.hid (hb)
  have E1 := Lib.hid (E0.out.below hb)
  have T1 := Lib.hid (T0.out.below hb)
  clear hb
  go_wp2_with fail
  refine (H1.out _ E1.out).mono ?_
  rintro e w2 ⟨rfl, hb⟩
  have B2 := Lib.hid (B1.out.trans (hb.mono B1.out.size))
  have E2 := Lib.hid (E1.out.below hb)
  have T2 := Lib.hid (T1.out.below hb)
  clear hb
  go_wp2_with fail
  refine (H2.out _ E2.out).mono ?_
  rintro e w3 ⟨rfl, hb⟩
  have B3 := Lib.hid (B2.out.trans (hb.mono B2.out.size))
  have E3 := Lib.hid (E2.out.below hb)
  have T3 := Lib.hid (T2.out.below hb)
  clear hb
  go_wp2_with fail
  refine (H3.out _ E3.out).mono ?_
  rintro e w4 ⟨rfl, hb⟩
  have B4 := Lib.hid (B3.out.trans (hb.mono B3.out.size))
  have E4 := Lib.hid (E3.out.below hb)
  have T4 := Lib.hid (T3.out.below hb)
  clear hb
  go_wp2_with fail
  refine (HD.out _ E4.out).mono ?_
  rintro e w5 ⟨rfl, hb⟩
  have B5 := Lib.hid (B4.out.trans (hb.mono B4.out.size))
  have E5 := Lib.hid (E4.out.below hb)
  have T5 := Lib.hid (T4.out.below hb)
  clear hb
  go_wp2_with fail
  refine (H4.out _ E5.out).mono ?_
  rintro e w6 ⟨rfl, hb⟩
  have B6 := Lib.hid (B5.out.trans (hb.mono B5.out.size))
  have E6 := Lib.hid (E5.out.below hb)
  have T6 := Lib.hid (T5.out.below hb)
  clear hb
  go_wp2_with fail
  refine (HF.out _ E6.out T6.out).mono ?_
  rintro e w7 ⟨rfl, hb⟩
  have B7 := Lib.hid (B6.out.trans (hb.mono B6.out.size))
  have E7 := Lib.hid (E6.out.below hb)
  clear hb
  go_wp2_with fail
  refine (HP.out _ E7.out).mono ?_
  rintro e w8 ⟨rfl, hb⟩
  have B8 := Lib.hid (B7.out.trans (hb.mono B7.out.size))
  clear hb
  go_wp2_with fail
  go_ret
  exact ⟨rfl, B8.out⟩

theorem back_walk7 (k n c : Int) (w : World) (he : Eps w) (ht : Tab w) (hf : fits c) :
    Calls Tryd.prog 6 #[.int .i64 k, .int .i64 n, .int .i64 c] w fun e w' => e = .returned (.bool true) ∧ Below w.heap.size w w' := by
  by_cases ha : ctE k n = 0
  · by_cases hb : ctE k (n + 1) = 0
    · by_cases hc : dyE k c = 0
      · by_cases hd : fvE n = 0
        · exact back7_yyy k n c w he ht hf ha hb hc hd
        · exact back7_yyn k n c w he ht hf ha hb hc hd
      · by_cases hd : fvE n = 0
        · exact back7_yny k n c w he ht hf ha hb hc hd
        · exact back7_ynn k n c w he ht hf ha hb hc hd
    · by_cases hc : dyE k c = 0
      · by_cases hd : fvE n = 0
        · exact back7_zyy k n c w he ht hf ha hb hc hd
        · exact back7_zyn k n c w he ht hf ha hb hc hd
      · by_cases hd : fvE n = 0
        · exact back7_zny k n c w he ht hf ha hb hc hd
        · exact back7_znn k n c w he ht hf ha hb hc hd
  · by_cases hc : dyE k c = 0
    · by_cases hd : fvE n = 0
      · exact back7_nyy k n c w he ht hf ha hc hd
      · exact back7_nyn k n c w he ht hf ha hc hd
    · by_cases hd : fvE n = 0
      · exact back7_nny k n c w he ht hf ha hc hd
      · exact back7_nnn k n c w he ht hf ha hc hd

end Go.Proofs.YtmfjfbofkkbmiaaDoor
