/- MjdCounts. Written by gen_mjd.py. -/
import Derived.Test.YtmfjfbofkkbmiaaDoorMjdE
namespace Go.Proofs.YtmfjfbofkkbmiaaDoor
open Go.RowKit
set_option linter.unusedVariables false

set_option maxRecDepth 100000 in
set_option maxHeartbeats 4000000 in
theorem counts_le (k n : Int) (w : World) (he : Eps w) (ht : Tab w) (h1 : ¬ k ≥ 1) (ha : ctE k n ≠ 0) :
    Calls Tryd.prog 3 #[.int .i64 k, .int .i64 n] w fun e w' => e = .returned (.bool true) ∧ Below w.heap.size w w' := by
  have HA := Lib.hid (malive_any w he)
  have E0 := Lib.hid he; have T0 := Lib.hid ht
  clear he ht
  have q0 := fun op t W x k => guard_ev op t W x k
  have q1 := fun W k => eql_ev W k
  have HC := Lib.hid (fun w he => count7_any k n w he)
  have HT := Lib.hid (fun w he ht => text7_any k n w he ht)
  have HR := Lib.hid (fun w => rcount_any k n w)
  have HW := Lib.hid (fun w he => word_any k w he)
  rw [(kn_no (k := k) (by unfold kn; omega)).1] at HW
  have eb := ctE_lo k n
  rw [show txL k n = [] from if_neg ha] at HT
  have a1 : (ctE k n == 0) = false := beq_eq_false_iff_ne.2 ha
  clear ha
  generalize ctE k n = E at *
  generalize ctN k n = N at *
  go_enter Tryd.func3, Tryd.ntmps3
  go_wp2_with fail
  refine (HA.out).mono ?_
  rintro e w1 ⟨rfl, hb⟩
  have B1 := Lib.hid (hb)
  have E1 := Lib.hid (E0.out.below hb)
  have T1 := Lib.hid (T0.out.below hb)
  clear hb
  go_wp2_with fail
  refine (HC.out _ E1.out).mono ?_
  rintro e w2 ⟨rfl, hb⟩
  have B2 := Lib.hid (B1.out.trans (hb.mono B1.out.size))
  have E2 := Lib.hid (E1.out.below hb)
  have T2 := Lib.hid (T1.out.below hb)
  clear hb
  go_wp2_with fail
  refine (HT.out _ E2.out T2.out).mono ?_
  rintro e w3 ⟨rfl, hb⟩
  have B3 := Lib.hid (B2.out.trans (hb.mono B2.out.size))
  have E3 := Lib.hid (E2.out.below hb)
  clear hb
  go_wp2_with fail
  refine (HR.out _).mono ?_
  rintro e w4 ⟨rfl, hb⟩
  have B4 := Lib.hid (B3.out.trans (hb.mono B3.out.size))
  have E4 := Lib.hid (E3.out.below hb)
  clear hb
  go_wp2_with (go_at_call 12; refine (num_any _ _ eb.1 eb.2).mono ?_; rintro e w' ⟨rfl, rfl⟩)
  refine (HW.out _ E4.out).mono ?_
  rintro e w5 ⟨rfl, hb⟩
  have B5 := Lib.hid (B4.out.trans (hb.mono B4.out.size)); clear hb
  go_wp2_with fail
  go_ret
  exact ⟨rfl, B5.out⟩

set_option maxRecDepth 100000 in
set_option maxHeartbeats 4000000 in
theorem counts_ge (k n : Int) (w : World) (he : Eps w) (ht : Tab w) (h1 : k ≥ 1) (h2 : ¬ k ≤ 4) (ha : ctE k n ≠ 0) :
    Calls Tryd.prog 3 #[.int .i64 k, .int .i64 n] w fun e w' => e = .returned (.bool true) ∧ Below w.heap.size w w' := by
  have HA := Lib.hid (malive_any w he)
  have E0 := Lib.hid he; have T0 := Lib.hid ht
  clear he ht
  have q0 := fun op t W x k => guard_ev op t W x k
  have q1 := fun W k => eql_ev W k
  have HC := Lib.hid (fun w he => count7_any k n w he)
  have HT := Lib.hid (fun w he ht => text7_any k n w he ht)
  have HR := Lib.hid (fun w => rcount_any k n w)
  have HW := Lib.hid (fun w he => word_any k w he)
  rw [(kn_no (k := k) (by unfold kn; omega)).1] at HW
  have eb := ctE_lo k n
  rw [show txL k n = [] from if_neg ha] at HT
  have a1 : (ctE k n == 0) = false := beq_eq_false_iff_ne.2 ha
  clear ha
  generalize ctE k n = E at *
  generalize ctN k n = N at *
  go_enter Tryd.func3, Tryd.ntmps3
  go_wp2_with fail
  refine (HA.out).mono ?_
  rintro e w1 ⟨rfl, hb⟩
  have B1 := Lib.hid (hb)
  have E1 := Lib.hid (E0.out.below hb)
  have T1 := Lib.hid (T0.out.below hb)
  clear hb
  go_wp2_with fail
  refine (HC.out _ E1.out).mono ?_
  rintro e w2 ⟨rfl, hb⟩
  have B2 := Lib.hid (B1.out.trans (hb.mono B1.out.size))
  have E2 := Lib.hid (E1.out.below hb)
  have T2 := Lib.hid (T1.out.below hb)
  clear hb
  go_wp2_with fail
  refine (HT.out _ E2.out T2.out).mono ?_
  rintro e w3 ⟨rfl, hb⟩
  have B3 := Lib.hid (B2.out.trans (hb.mono B2.out.size))
  have E3 := Lib.hid (E2.out.below hb)
  clear hb
  go_wp2_with fail
  refine (HR.out _).mono ?_
  rintro e w4 ⟨rfl, hb⟩
  have B4 := Lib.hid (B3.out.trans (hb.mono B3.out.size))
  have E4 := Lib.hid (E3.out.below hb)
  clear hb
  go_wp2_with (go_at_call 12; refine (num_any _ _ eb.1 eb.2).mono ?_; rintro e w' ⟨rfl, rfl⟩)
  refine (HW.out _ E4.out).mono ?_
  rintro e w5 ⟨rfl, hb⟩
  have B5 := Lib.hid (B4.out.trans (hb.mono B4.out.size)); clear hb
  go_wp2_with fail
  go_ret
  exact ⟨rfl, B5.out⟩

set_option maxRecDepth 100000 in
set_option maxHeartbeats 4000000 in
theorem counts_1z (n : Int) (w : World) (he : Eps w) (ht : Tab w) (ha : ctE 1 n = 0) :
    Calls Tryd.prog 3 #[.int .i64 1, .int .i64 n] w fun e w' => e = .returned (.bool true) ∧ Below w.heap.size w w' := by
  have HA := Lib.hid (malive_any w he)
  have E0 := Lib.hid he; have T0 := Lib.hid ht
  clear he ht
  have q0 := fun op t W x k => guard_ev op t W x k
  have q1 := fun W k => eql_ev W k
  have HC := Lib.hid (fun w he => count7_any 1 n w he)
  have HT := Lib.hid (fun w he ht => text7_any 1 n w he ht)
  have HR := Lib.hid (fun w => rcount_any 1 n w)
  have HW := Lib.hid (fun w he => word_any 1 w he)
  rw [show (⟨(ew 1).toArray⟩ : ByteArray) = ⟨#[109, 111, 100, 105, 102, 105, 101, 100]⟩ from rfl] at HW
  have hf := ctN_fit 1 n
  have HP := Lib.hid (fun w => rput_any (ctN 1 n) 0 w hf (by decide))
  rw [show ptE 0 = 0 by decide +kernel] at HP
  rw [show txL 1 n = ptL (ctN 1 n) 0 from if_pos ha, ha] at HT
  rw [ha] at HC HR
  have eb : (0 : Int) ≤ 0 ∧ (0 : Int) < 100 := by decide
  clear ha hf
  generalize (⟨(ptL (ctN 1 n) 0).toArray⟩ : ByteArray) = S at *
  generalize ctN 1 n = N at *
  go_enter Tryd.func3, Tryd.ntmps3
  go_wp2_with fail
  refine (HA.out).mono ?_
  rintro e w1 ⟨rfl, hb⟩
  have B1 := Lib.hid (hb)
  have E1 := Lib.hid (E0.out.below hb)
  have T1 := Lib.hid (T0.out.below hb)
  clear hb
  go_wp2_with fail
  refine (HC.out _ E1.out).mono ?_
  rintro e w2 ⟨rfl, hb⟩
  have B2 := Lib.hid (B1.out.trans (hb.mono B1.out.size))
  have E2 := Lib.hid (E1.out.below hb)
  have T2 := Lib.hid (T1.out.below hb)
  clear hb
  go_wp2_with fail
  refine (HT.out _ E2.out T2.out).mono ?_
  rintro e w3 ⟨rfl, hb⟩
  have B3 := Lib.hid (B2.out.trans (hb.mono B2.out.size))
  have E3 := Lib.hid (E2.out.below hb)
  clear hb
  go_wp2_with fail
  refine (HR.out _).mono ?_
  rintro e w4 ⟨rfl, hb⟩
  have B4 := Lib.hid (B3.out.trans (hb.mono B3.out.size))
  have E4 := Lib.hid (E3.out.below hb)
  clear hb
  go_wp2_with fail
  refine (HP.out _).mono ?_
  rintro e w5 ⟨rfl, hb⟩
  have B5 := Lib.hid (B4.out.trans (hb.mono B4.out.size))
  have E5 := Lib.hid (E4.out.below hb)
  clear hb
  go_wp2_with (go_at_call 12; refine (num_any _ _ eb.1 eb.2).mono ?_; rintro e w' ⟨rfl, rfl⟩)
  refine (HW.out _ (E0.out.below (B5.out.alloc B5.out.size _))).mono ?_
  rintro e w6 ⟨rfl, hb⟩
  have B6 := Lib.hid ((B5.out.alloc B5.out.size _).trans (hb.mono (B5.out.alloc B5.out.size _).size)); clear hb
  go_wp2_with fail
  go_ret
  exact ⟨rfl, B6.out⟩

set_option maxRecDepth 100000 in
set_option maxHeartbeats 4000000 in
theorem counts_1e (n : Int) (w : World) (he : Eps w) (ht : Tab w) (ha : ctE 1 n ≠ 0) :
    Calls Tryd.prog 3 #[.int .i64 1, .int .i64 n] w fun e w' => e = .returned (.bool true) ∧ Below w.heap.size w w' := by
  have HA := Lib.hid (malive_any w he)
  have E0 := Lib.hid he; have T0 := Lib.hid ht
  clear he ht
  have q0 := fun op t W x k => guard_ev op t W x k
  have q1 := fun W k => eql_ev W k
  have HC := Lib.hid (fun w he => count7_any 1 n w he)
  have HT := Lib.hid (fun w he ht => text7_any 1 n w he ht)
  have HR := Lib.hid (fun w => rcount_any 1 n w)
  have HW := Lib.hid (fun w he => word_any 1 w he)
  rw [show (⟨(ew 1).toArray⟩ : ByteArray) = ⟨#[109, 111, 100, 105, 102, 105, 101, 100]⟩ from rfl] at HW
  have eb := ctE_lo 1 n
  rw [show txL 1 n = [] from if_neg ha] at HT
  have a1 : (ctE 1 n == 0) = false := beq_eq_false_iff_ne.2 ha
  clear ha
  generalize ctE 1 n = E at *
  generalize ctN 1 n = N at *
  go_enter Tryd.func3, Tryd.ntmps3
  go_wp2_with fail
  refine (HA.out).mono ?_
  rintro e w1 ⟨rfl, hb⟩
  have B1 := Lib.hid (hb)
  have E1 := Lib.hid (E0.out.below hb)
  have T1 := Lib.hid (T0.out.below hb)
  clear hb
  go_wp2_with fail
  refine (HC.out _ E1.out).mono ?_
  rintro e w2 ⟨rfl, hb⟩
  have B2 := Lib.hid (B1.out.trans (hb.mono B1.out.size))
  have E2 := Lib.hid (E1.out.below hb)
  have T2 := Lib.hid (T1.out.below hb)
  clear hb
  go_wp2_with fail
  refine (HT.out _ E2.out T2.out).mono ?_
  rintro e w3 ⟨rfl, hb⟩
  have B3 := Lib.hid (B2.out.trans (hb.mono B2.out.size))
  have E3 := Lib.hid (E2.out.below hb)
  clear hb
  go_wp2_with fail
  refine (HR.out _).mono ?_
  rintro e w4 ⟨rfl, hb⟩
  have B4 := Lib.hid (B3.out.trans (hb.mono B3.out.size))
  have E4 := Lib.hid (E3.out.below hb)
  clear hb
  go_wp2_with (go_at_call 12; refine (num_any _ _ eb.1 eb.2).mono ?_; rintro e w' ⟨rfl, rfl⟩)
  refine (HW.out _ (E0.out.below (B4.out.alloc B4.out.size _))).mono ?_
  rintro e w5 ⟨rfl, hb⟩
  have B5 := Lib.hid ((B4.out.alloc B4.out.size _).trans (hb.mono (B4.out.alloc B4.out.size _).size)); clear hb
  go_wp2_with fail
  go_ret
  exact ⟨rfl, B5.out⟩

set_option maxRecDepth 100000 in
set_option maxHeartbeats 4000000 in
theorem counts_2z (n : Int) (w : World) (he : Eps w) (ht : Tab w) (ha : ctE 2 n = 0) :
    Calls Tryd.prog 3 #[.int .i64 2, .int .i64 n] w fun e w' => e = .returned (.bool true) ∧ Below w.heap.size w w' := by
  have HA := Lib.hid (malive_any w he)
  have E0 := Lib.hid he; have T0 := Lib.hid ht
  clear he ht
  have q0 := fun op t W x k => guard_ev op t W x k
  have q1 := fun W k => eql_ev W k
  have HC := Lib.hid (fun w he => count7_any 2 n w he)
  have HT := Lib.hid (fun w he ht => text7_any 2 n w he ht)
  have HR := Lib.hid (fun w => rcount_any 2 n w)
  have HW := Lib.hid (fun w he => word_any 2 w he)
  rw [show (⟨(ew 2).toArray⟩ : ByteArray) = ⟨#[106, 117, 108, 105, 97, 110]⟩ from rfl] at HW
  have hf := ctN_fit 2 n
  have HP := Lib.hid (fun w => rput_any (ctN 2 n) 0 w hf (by decide))
  rw [show ptE 0 = 0 by decide +kernel] at HP
  rw [show txL 2 n = ptL (ctN 2 n) 0 from if_pos ha, ha] at HT
  rw [ha] at HC HR
  have eb : (0 : Int) ≤ 0 ∧ (0 : Int) < 100 := by decide
  clear ha hf
  generalize (⟨(ptL (ctN 2 n) 0).toArray⟩ : ByteArray) = S at *
  generalize ctN 2 n = N at *
  go_enter Tryd.func3, Tryd.ntmps3
  go_wp2_with fail
  refine (HA.out).mono ?_
  rintro e w1 ⟨rfl, hb⟩
  have B1 := Lib.hid (hb)
  have E1 := Lib.hid (E0.out.below hb)
  have T1 := Lib.hid (T0.out.below hb)
  clear hb
  go_wp2_with fail
  refine (HC.out _ E1.out).mono ?_
  rintro e w2 ⟨rfl, hb⟩
  have B2 := Lib.hid (B1.out.trans (hb.mono B1.out.size))
  have E2 := Lib.hid (E1.out.below hb)
  have T2 := Lib.hid (T1.out.below hb)
  clear hb
  go_wp2_with fail
  refine (HT.out _ E2.out T2.out).mono ?_
  rintro e w3 ⟨rfl, hb⟩
  have B3 := Lib.hid (B2.out.trans (hb.mono B2.out.size))
  have E3 := Lib.hid (E2.out.below hb)
  clear hb
  go_wp2_with fail
  refine (HR.out _).mono ?_
  rintro e w4 ⟨rfl, hb⟩
  have B4 := Lib.hid (B3.out.trans (hb.mono B3.out.size))
  have E4 := Lib.hid (E3.out.below hb)
  clear hb
  go_wp2_with fail
  refine (HP.out _).mono ?_
  rintro e w5 ⟨rfl, hb⟩
  have B5 := Lib.hid (B4.out.trans (hb.mono B4.out.size))
  have E5 := Lib.hid (E4.out.below hb)
  clear hb
  go_wp2_with (go_at_call 12; refine (num_any _ _ eb.1 eb.2).mono ?_; rintro e w' ⟨rfl, rfl⟩)
  refine (HW.out _ (E0.out.below (B5.out.alloc B5.out.size _))).mono ?_
  rintro e w6 ⟨rfl, hb⟩
  have B6 := Lib.hid ((B5.out.alloc B5.out.size _).trans (hb.mono (B5.out.alloc B5.out.size _).size)); clear hb
  go_wp2_with fail
  go_ret
  exact ⟨rfl, B6.out⟩

set_option maxRecDepth 100000 in
set_option maxHeartbeats 4000000 in
theorem counts_2e (n : Int) (w : World) (he : Eps w) (ht : Tab w) (ha : ctE 2 n ≠ 0) :
    Calls Tryd.prog 3 #[.int .i64 2, .int .i64 n] w fun e w' => e = .returned (.bool true) ∧ Below w.heap.size w w' := by
  have HA := Lib.hid (malive_any w he)
  have E0 := Lib.hid he; have T0 := Lib.hid ht
  clear he ht
  have q0 := fun op t W x k => guard_ev op t W x k
  have q1 := fun W k => eql_ev W k
  have HC := Lib.hid (fun w he => count7_any 2 n w he)
  have HT := Lib.hid (fun w he ht => text7_any 2 n w he ht)
  have HR := Lib.hid (fun w => rcount_any 2 n w)
  have HW := Lib.hid (fun w he => word_any 2 w he)
  rw [show (⟨(ew 2).toArray⟩ : ByteArray) = ⟨#[106, 117, 108, 105, 97, 110]⟩ from rfl] at HW
  have eb := ctE_lo 2 n
  rw [show txL 2 n = [] from if_neg ha] at HT
  have a1 : (ctE 2 n == 0) = false := beq_eq_false_iff_ne.2 ha
  clear ha
  generalize ctE 2 n = E at *
  generalize ctN 2 n = N at *
  go_enter Tryd.func3, Tryd.ntmps3
  go_wp2_with fail
  refine (HA.out).mono ?_
  rintro e w1 ⟨rfl, hb⟩
  have B1 := Lib.hid (hb)
  have E1 := Lib.hid (E0.out.below hb)
  have T1 := Lib.hid (T0.out.below hb)
  clear hb
  go_wp2_with fail
  refine (HC.out _ E1.out).mono ?_
  rintro e w2 ⟨rfl, hb⟩
  have B2 := Lib.hid (B1.out.trans (hb.mono B1.out.size))
  have E2 := Lib.hid (E1.out.below hb)
  have T2 := Lib.hid (T1.out.below hb)
  clear hb
  go_wp2_with fail
  refine (HT.out _ E2.out T2.out).mono ?_
  rintro e w3 ⟨rfl, hb⟩
  have B3 := Lib.hid (B2.out.trans (hb.mono B2.out.size))
  have E3 := Lib.hid (E2.out.below hb)
  clear hb
  go_wp2_with fail
  refine (HR.out _).mono ?_
  rintro e w4 ⟨rfl, hb⟩
  have B4 := Lib.hid (B3.out.trans (hb.mono B3.out.size))
  have E4 := Lib.hid (E3.out.below hb)
  clear hb
  go_wp2_with (go_at_call 12; refine (num_any _ _ eb.1 eb.2).mono ?_; rintro e w' ⟨rfl, rfl⟩)
  refine (HW.out _ (E0.out.below (B4.out.alloc B4.out.size _))).mono ?_
  rintro e w5 ⟨rfl, hb⟩
  have B5 := Lib.hid ((B4.out.alloc B4.out.size _).trans (hb.mono (B4.out.alloc B4.out.size _).size)); clear hb
  go_wp2_with fail
  go_ret
  exact ⟨rfl, B5.out⟩

set_option maxRecDepth 100000 in
set_option maxHeartbeats 4000000 in
theorem counts_3z (n : Int) (w : World) (he : Eps w) (ht : Tab w) (ha : ctE 3 n = 0) :
    Calls Tryd.prog 3 #[.int .i64 3, .int .i64 n] w fun e w' => e = .returned (.bool true) ∧ Below w.heap.size w w' := by
  have HA := Lib.hid (malive_any w he)
  have E0 := Lib.hid he; have T0 := Lib.hid ht
  clear he ht
  have q0 := fun op t W x k => guard_ev op t W x k
  have q1 := fun W k => eql_ev W k
  have HC := Lib.hid (fun w he => count7_any 3 n w he)
  have HT := Lib.hid (fun w he ht => text7_any 3 n w he ht)
  have HR := Lib.hid (fun w => rcount_any 3 n w)
  have HW := Lib.hid (fun w he => word_any 3 w he)
  rw [show (⟨(ew 3).toArray⟩ : ByteArray) = ⟨#[115, 116, 97, 109, 112, 101, 100]⟩ from rfl] at HW
  have hf := ctN_fit 3 n
  have HP := Lib.hid (fun w => rput_any (ctN 3 n) 0 w hf (by decide))
  rw [show ptE 0 = 0 by decide +kernel] at HP
  rw [show txL 3 n = ptL (ctN 3 n) 0 from if_pos ha, ha] at HT
  rw [ha] at HC HR
  have eb : (0 : Int) ≤ 0 ∧ (0 : Int) < 100 := by decide
  clear ha hf
  generalize (⟨(ptL (ctN 3 n) 0).toArray⟩ : ByteArray) = S at *
  generalize ctN 3 n = N at *
  go_enter Tryd.func3, Tryd.ntmps3
  go_wp2_with fail
  refine (HA.out).mono ?_
  rintro e w1 ⟨rfl, hb⟩
  have B1 := Lib.hid (hb)
  have E1 := Lib.hid (E0.out.below hb)
  have T1 := Lib.hid (T0.out.below hb)
  clear hb
  go_wp2_with fail
  refine (HC.out _ E1.out).mono ?_
  rintro e w2 ⟨rfl, hb⟩
  have B2 := Lib.hid (B1.out.trans (hb.mono B1.out.size))
  have E2 := Lib.hid (E1.out.below hb)
  have T2 := Lib.hid (T1.out.below hb)
  clear hb
  go_wp2_with fail
  refine (HT.out _ E2.out T2.out).mono ?_
  rintro e w3 ⟨rfl, hb⟩
  have B3 := Lib.hid (B2.out.trans (hb.mono B2.out.size))
  have E3 := Lib.hid (E2.out.below hb)
  clear hb
  go_wp2_with fail
  refine (HR.out _).mono ?_
  rintro e w4 ⟨rfl, hb⟩
  have B4 := Lib.hid (B3.out.trans (hb.mono B3.out.size))
  have E4 := Lib.hid (E3.out.below hb)
  clear hb
  go_wp2_with fail
  refine (HP.out _).mono ?_
  rintro e w5 ⟨rfl, hb⟩
  have B5 := Lib.hid (B4.out.trans (hb.mono B4.out.size))
  have E5 := Lib.hid (E4.out.below hb)
  clear hb
  go_wp2_with (go_at_call 12; refine (num_any _ _ eb.1 eb.2).mono ?_; rintro e w' ⟨rfl, rfl⟩)
  refine (HW.out _ (E0.out.below (B5.out.alloc B5.out.size _))).mono ?_
  rintro e w6 ⟨rfl, hb⟩
  have B6 := Lib.hid ((B5.out.alloc B5.out.size _).trans (hb.mono (B5.out.alloc B5.out.size _).size)); clear hb
  go_wp2_with fail
  go_ret
  exact ⟨rfl, B6.out⟩

set_option maxRecDepth 100000 in
set_option maxHeartbeats 4000000 in
theorem counts_3e (n : Int) (w : World) (he : Eps w) (ht : Tab w) (ha : ctE 3 n ≠ 0) :
    Calls Tryd.prog 3 #[.int .i64 3, .int .i64 n] w fun e w' => e = .returned (.bool true) ∧ Below w.heap.size w w' := by
  have HA := Lib.hid (malive_any w he)
  have E0 := Lib.hid he; have T0 := Lib.hid ht
  clear he ht
  have q0 := fun op t W x k => guard_ev op t W x k
  have q1 := fun W k => eql_ev W k
  have HC := Lib.hid (fun w he => count7_any 3 n w he)
  have HT := Lib.hid (fun w he ht => text7_any 3 n w he ht)
  have HR := Lib.hid (fun w => rcount_any 3 n w)
  have HW := Lib.hid (fun w he => word_any 3 w he)
  rw [show (⟨(ew 3).toArray⟩ : ByteArray) = ⟨#[115, 116, 97, 109, 112, 101, 100]⟩ from rfl] at HW
  have eb := ctE_lo 3 n
  rw [show txL 3 n = [] from if_neg ha] at HT
  have a1 : (ctE 3 n == 0) = false := beq_eq_false_iff_ne.2 ha
  clear ha
  generalize ctE 3 n = E at *
  generalize ctN 3 n = N at *
  go_enter Tryd.func3, Tryd.ntmps3
  go_wp2_with fail
  refine (HA.out).mono ?_
  rintro e w1 ⟨rfl, hb⟩
  have B1 := Lib.hid (hb)
  have E1 := Lib.hid (E0.out.below hb)
  have T1 := Lib.hid (T0.out.below hb)
  clear hb
  go_wp2_with fail
  refine (HC.out _ E1.out).mono ?_
  rintro e w2 ⟨rfl, hb⟩
  have B2 := Lib.hid (B1.out.trans (hb.mono B1.out.size))
  have E2 := Lib.hid (E1.out.below hb)
  have T2 := Lib.hid (T1.out.below hb)
  clear hb
  go_wp2_with fail
  refine (HT.out _ E2.out T2.out).mono ?_
  rintro e w3 ⟨rfl, hb⟩
  have B3 := Lib.hid (B2.out.trans (hb.mono B2.out.size))
  have E3 := Lib.hid (E2.out.below hb)
  clear hb
  go_wp2_with fail
  refine (HR.out _).mono ?_
  rintro e w4 ⟨rfl, hb⟩
  have B4 := Lib.hid (B3.out.trans (hb.mono B3.out.size))
  have E4 := Lib.hid (E3.out.below hb)
  clear hb
  go_wp2_with (go_at_call 12; refine (num_any _ _ eb.1 eb.2).mono ?_; rintro e w' ⟨rfl, rfl⟩)
  refine (HW.out _ (E0.out.below (B4.out.alloc B4.out.size _))).mono ?_
  rintro e w5 ⟨rfl, hb⟩
  have B5 := Lib.hid ((B4.out.alloc B4.out.size _).trans (hb.mono (B4.out.alloc B4.out.size _).size)); clear hb
  go_wp2_with fail
  go_ret
  exact ⟨rfl, B5.out⟩

set_option maxRecDepth 100000 in
set_option maxHeartbeats 4000000 in
theorem counts_4z (n : Int) (w : World) (he : Eps w) (ht : Tab w) (ha : ctE 4 n = 0) :
    Calls Tryd.prog 3 #[.int .i64 4, .int .i64 n] w fun e w' => e = .returned (.bool true) ∧ Below w.heap.size w w' := by
  have HA := Lib.hid (malive_any w he)
  have E0 := Lib.hid he; have T0 := Lib.hid ht
  clear he ht
  have q0 := fun op t W x k => guard_ev op t W x k
  have q1 := fun W k => eql_ev W k
  have HC := Lib.hid (fun w he => count7_any 4 n w he)
  have HT := Lib.hid (fun w he ht => text7_any 4 n w he ht)
  have HR := Lib.hid (fun w => rcount_any 4 n w)
  have HW := Lib.hid (fun w he => word_any 4 w he)
  rw [show (⟨(ew 4).toArray⟩ : ByteArray) = ⟨#[115, 97, 116, 101, 108, 108, 105, 116, 101]⟩ from rfl] at HW
  have hf := ctN_fit 4 n
  have HP := Lib.hid (fun w => rput_any (ctN 4 n) 0 w hf (by decide))
  rw [show ptE 0 = 0 by decide +kernel] at HP
  rw [show txL 4 n = ptL (ctN 4 n) 0 from if_pos ha, ha] at HT
  rw [ha] at HC HR
  have eb : (0 : Int) ≤ 0 ∧ (0 : Int) < 100 := by decide
  clear ha hf
  generalize (⟨(ptL (ctN 4 n) 0).toArray⟩ : ByteArray) = S at *
  generalize ctN 4 n = N at *
  go_enter Tryd.func3, Tryd.ntmps3
  go_wp2_with fail
  refine (HA.out).mono ?_
  rintro e w1 ⟨rfl, hb⟩
  have B1 := Lib.hid (hb)
  have E1 := Lib.hid (E0.out.below hb)
  have T1 := Lib.hid (T0.out.below hb)
  clear hb
  go_wp2_with fail
  refine (HC.out _ E1.out).mono ?_
  rintro e w2 ⟨rfl, hb⟩
  have B2 := Lib.hid (B1.out.trans (hb.mono B1.out.size))
  have E2 := Lib.hid (E1.out.below hb)
  have T2 := Lib.hid (T1.out.below hb)
  clear hb
  go_wp2_with fail
  refine (HT.out _ E2.out T2.out).mono ?_
  rintro e w3 ⟨rfl, hb⟩
  have B3 := Lib.hid (B2.out.trans (hb.mono B2.out.size))
  have E3 := Lib.hid (E2.out.below hb)
  clear hb
  go_wp2_with fail
  refine (HR.out _).mono ?_
  rintro e w4 ⟨rfl, hb⟩
  have B4 := Lib.hid (B3.out.trans (hb.mono B3.out.size))
  have E4 := Lib.hid (E3.out.below hb)
  clear hb
  go_wp2_with fail
  refine (HP.out _).mono ?_
  rintro e w5 ⟨rfl, hb⟩
  have B5 := Lib.hid (B4.out.trans (hb.mono B4.out.size))
  have E5 := Lib.hid (E4.out.below hb)
  clear hb
  go_wp2_with (go_at_call 12; refine (num_any _ _ eb.1 eb.2).mono ?_; rintro e w' ⟨rfl, rfl⟩)
  refine (HW.out _ (E0.out.below (B5.out.alloc B5.out.size _))).mono ?_
  rintro e w6 ⟨rfl, hb⟩
  have B6 := Lib.hid ((B5.out.alloc B5.out.size _).trans (hb.mono (B5.out.alloc B5.out.size _).size)); clear hb
  go_wp2_with fail
  go_ret
  exact ⟨rfl, B6.out⟩

set_option maxRecDepth 100000 in
set_option maxHeartbeats 4000000 in
theorem counts_4e (n : Int) (w : World) (he : Eps w) (ht : Tab w) (ha : ctE 4 n ≠ 0) :
    Calls Tryd.prog 3 #[.int .i64 4, .int .i64 n] w fun e w' => e = .returned (.bool true) ∧ Below w.heap.size w w' := by
  have HA := Lib.hid (malive_any w he)
  have E0 := Lib.hid he; have T0 := Lib.hid ht
  clear he ht
  have q0 := fun op t W x k => guard_ev op t W x k
  have q1 := fun W k => eql_ev W k
  have HC := Lib.hid (fun w he => count7_any 4 n w he)
  have HT := Lib.hid (fun w he ht => text7_any 4 n w he ht)
  have HR := Lib.hid (fun w => rcount_any 4 n w)
  have HW := Lib.hid (fun w he => word_any 4 w he)
  rw [show (⟨(ew 4).toArray⟩ : ByteArray) = ⟨#[115, 97, 116, 101, 108, 108, 105, 116, 101]⟩ from rfl] at HW
  have eb := ctE_lo 4 n
  rw [show txL 4 n = [] from if_neg ha] at HT
  have a1 : (ctE 4 n == 0) = false := beq_eq_false_iff_ne.2 ha
  clear ha
  generalize ctE 4 n = E at *
  generalize ctN 4 n = N at *
  go_enter Tryd.func3, Tryd.ntmps3
  go_wp2_with fail
  refine (HA.out).mono ?_
  rintro e w1 ⟨rfl, hb⟩
  have B1 := Lib.hid (hb)
  have E1 := Lib.hid (E0.out.below hb)
  have T1 := Lib.hid (T0.out.below hb)
  clear hb
  go_wp2_with fail
  refine (HC.out _ E1.out).mono ?_
  rintro e w2 ⟨rfl, hb⟩
  have B2 := Lib.hid (B1.out.trans (hb.mono B1.out.size))
  have E2 := Lib.hid (E1.out.below hb)
  have T2 := Lib.hid (T1.out.below hb)
  clear hb
  go_wp2_with fail
  refine (HT.out _ E2.out T2.out).mono ?_
  rintro e w3 ⟨rfl, hb⟩
  have B3 := Lib.hid (B2.out.trans (hb.mono B2.out.size))
  have E3 := Lib.hid (E2.out.below hb)
  clear hb
  go_wp2_with fail
  refine (HR.out _).mono ?_
  rintro e w4 ⟨rfl, hb⟩
  have B4 := Lib.hid (B3.out.trans (hb.mono B3.out.size))
  have E4 := Lib.hid (E3.out.below hb)
  clear hb
  go_wp2_with (go_at_call 12; refine (num_any _ _ eb.1 eb.2).mono ?_; rintro e w' ⟨rfl, rfl⟩)
  refine (HW.out _ (E0.out.below (B4.out.alloc B4.out.size _))).mono ?_
  rintro e w5 ⟨rfl, hb⟩
  have B5 := Lib.hid ((B4.out.alloc B4.out.size _).trans (hb.mono (B4.out.alloc B4.out.size _).size)); clear hb
  go_wp2_with fail
  go_ret
  exact ⟨rfl, B5.out⟩

theorem mcounts_walk (k n : Int) (w : World) (he : Eps w) (ht : Tab w) :
    Calls Tryd.prog 3 #[.int .i64 k, .int .i64 n] w fun e w' => e = .returned (.bool true) ∧ Below w.heap.size w w' := by
  by_cases h : kn k
  · obtain ⟨-, g⟩ := kn_yes h
    clear h
    rcases g with rfl | rfl | rfl | rfl
    · by_cases ha : ctE 1 n = 0
      · exact counts_1z n w he ht ha
      · exact counts_1e n w he ht ha
    · by_cases ha : ctE 2 n = 0
      · exact counts_2z n w he ht ha
      · exact counts_2e n w he ht ha
    · by_cases ha : ctE 3 n = 0
      · exact counts_3z n w he ht ha
      · exact counts_3e n w he ht ha
    · by_cases ha : ctE 4 n = 0
      · exact counts_4z n w he ht ha
      · exact counts_4e n w he ht ha
  · have ha : ctE k n ≠ 0 := by rw [(ct_no n h).1]; decide
    unfold kn at h
    by_cases h1 : k ≥ 1
    · exact counts_ge k n w he ht h1 (by omega) ha
    · exact counts_le k n w he ht h1 ha

end Go.Proofs.YtmfjfbofkkbmiaaDoor
