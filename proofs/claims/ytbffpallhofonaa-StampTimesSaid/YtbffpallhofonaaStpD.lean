/- The document's Begin, Ahead, Back; StampTimes. (Written by gen_stp.py.) -/
import Derived.Test.YtbffpallhofonaaStpB
import Derived.Test.YtbffpallhofonaaEraE
import Derived.Test.YtbffpallhofonaaBigH
import Derived.Test.YtbffpallhofonaaDayF
import Derived.Deep.QuietTactic
import Derived.Deep.DeepCutAuto
namespace Go.Proofs.Ytbffpallhofonaa
open Go.RowKit
set_option linter.unusedVariables false
set_option linter.unusedSimpArgs false

theorem begin15_any (w : World) : Calls Try.prog 49 #[] w fun e w' => e = .returned (.int .i64 2208988800) ∧ Below w.heap.size w w' := by
  have HO := Lib.hid (fun w => rof_any 1900 1 1 w (by decide) (by decide) (by decide) (by decide) (by decide))
  rw [show st 1900 + em 1900 (1 - 1) + 1 - 1 = -25567 by decide] at HO
  go_enter Try.func49, Try.ntmps49
  go_wp2_with (go_at_call 63; refine (HO.out _).mono ?_; rintro e w1 ⟨rfl, hb⟩; have B := Lib.hid hb; clear hb)
  go_ret
  exact ⟨rfl, B.out⟩
set_option maxHeartbeats 2000000 in
theorem ahead15_any (t : Int) (w : World) (ht : fits t) :
    Calls Try.prog 24 #[.int .i64 t] w fun e w' => e = .returned (.tuple #[.int .i64 (sm (t + 2208988800)), .int .i64 (bad (t + 2208988800))]) ∧ Below w.heap.size w w' := by
  have H1 := Lib.hid (fun w => of_any t w ht)
  have HB := Lib.hid (fun w => begin15_any w)
  have H2 := Lib.hid (fun w => of_any 2208988800 w (by decide))
  have H4 := Lib.hid (fun v u w h h' => plus_big v u t 2208988800 4 4 w h h' (by decide) (by decide))
  have H5 := Lib.hid (fun v w h => small_any v (t + 2208988800) 5 w h (by decide))
  generalize bad (t + 2208988800) = E at *
  generalize sm (t + 2208988800) = V at *
  clear ht
  go_enter Try.func24, Try.ntmps24
  go_wp2_with first
    | (go_at_call_of 41 (Value.int IntKind.i64 2208988800); refine (H2.out _).mono ?_; rintro e w3 ⟨v3, rfl, bv, hb⟩; have V3 := Lib.hid bv; have V1 := Lib.hid (V1.out.below hb); have B := Lib.hid (B.out.trans (hb.mono B.out.size)); clear bv hb)
    | (go_at_call 41; refine (H1.out _).mono ?_; rintro e w1 ⟨v1, rfl, bv, hb⟩; have V1 := Lib.hid bv; have B := Lib.hid hb; clear bv hb)
    | (go_at_call 49; refine (HB.out _).mono ?_; rintro e w2 ⟨rfl, hb⟩; have V1 := Lib.hid (V1.out.below hb); have B := Lib.hid (B.out.trans (hb.mono B.out.size)); clear hb)
    | (go_at_call 42; refine (H4.out _ _ _ V1.out V3.out).mono ?_; rintro e w5 ⟨v5, rfl, bv, hb⟩; have V5 := Lib.hid bv; have B := Lib.hid (B.out.trans (hb.mono B.out.size)); clear bv hb)
    | (go_at_call 46; refine (H5.out _ _ V5.out).mono ?_; rintro e w6 ⟨rfl, hb⟩; have B := Lib.hid (B.out.trans (hb.mono B.out.size)); clear hb)
  go_ret2
  exact ⟨rfl, B.out⟩
set_option maxHeartbeats 2000000 in
theorem back15_any (t : Int) (w : World) (ht : fits t) :
    Calls Try.prog 25 #[.int .i64 t] w fun e w' => e = .returned (.tuple #[.int .i64 (sm (t - 2208988800)), .int .i64 (bad (t - 2208988800))]) ∧ Below w.heap.size w w' := by
  have H1 := Lib.hid (fun w => of_any t w ht)
  have HB := Lib.hid (fun w => begin15_any w)
  have H2 := Lib.hid (fun w => of_any 2208988800 w (by decide))
  have H3 := Lib.hid (fun v w h => minus_big v 2208988800 4 w h (by decide))
  have H4 := Lib.hid (fun v u w h h' => plus_big v u t (-2208988800) 4 4 w h h' (by decide) (by decide))
  have H5 := Lib.hid (fun v w h => small_any v (t + -2208988800) 5 w h (by decide))
  rw [show t + -2208988800 = t - 2208988800 by omega] at H4 H5
  generalize bad (t - 2208988800) = E at *
  generalize sm (t - 2208988800) = V at *
  clear ht
  go_enter Try.func25, Try.ntmps25
  go_wp2_with first
    | (go_at_call_of 41 (Value.int IntKind.i64 2208988800); refine (H2.out _).mono ?_; rintro e w3 ⟨v3, rfl, bv, hb⟩; have V3 := Lib.hid bv; have V1 := Lib.hid (V1.out.below hb); have B := Lib.hid (B.out.trans (hb.mono B.out.size)); clear bv hb)
    | (go_at_call 41; refine (H1.out _).mono ?_; rintro e w1 ⟨v1, rfl, bv, hb⟩; have V1 := Lib.hid bv; have B := Lib.hid hb; clear bv hb)
    | (go_at_call 49; refine (HB.out _).mono ?_; rintro e w2 ⟨rfl, hb⟩; have V1 := Lib.hid (V1.out.below hb); have B := Lib.hid (B.out.trans (hb.mono B.out.size)); clear hb)
    | (go_at_call 43; refine (H3.out _ _ V3.out).mono ?_; rintro e w4 ⟨v4, rfl, bv, hb⟩; have V4 := Lib.hid bv; have V1 := Lib.hid (V1.out.below hb); have B := Lib.hid (B.out.trans (hb.mono B.out.size)); clear bv hb)
    | (go_at_call 42; refine (H4.out _ _ _ V1.out V4.out).mono ?_; rintro e w5 ⟨v5, rfl, bv, hb⟩; have V5 := Lib.hid bv; have B := Lib.hid (B.out.trans (hb.mono B.out.size)); clear bv hb)
    | (go_at_call 46; refine (H5.out _ _ V5.out).mono ?_; rintro e w6 ⟨rfl, hb⟩; have B := Lib.hid (B.out.trans (hb.mono B.out.size)); clear hb)
  go_ret2
  exact ⟨rfl, B.out⟩
set_option maxHeartbeats 3200000 in
theorem times_low (t p n : Int) (w : World) (ht : fits t) (hp : fits p) (hn : fits n) (ho : okn n = false) (hlo : n < 0) (hu : fits (un 0 p 32)) :
    Calls Try.prog 4 #[.int .i64 t, .int .i64 p, .int .i64 n] w fun e w' => e = .returned (.bool true) ∧ Below w.heap.size w w' := by
  have q0 := fun op t W x k => guard_ev op t W x k
  have q1 := fun W k => eql_ev W k
  have q2 := fun W k => neq_ev W k
  have HO := Lib.hid (fun w => sof_any15 t n w ht hn)
  rw [(lf_no ho).1, (lf_no ho).2, ho, if_neg (by simp)] at HO
  have lb : (0 : Int) ≤ 0 ∧ (0 : Int) < 4294967296 := by decide
  have sb : (0 : Int) ≤ 0 ∧ (0 : Int) < 4294967296 := by decide
  have HT := Lib.hid (fun w => stime_any 0 0 p w sb.1 sb.2 lb.1 lb.2 hp)
  have HB : Hid (∀ w, Calls Try.prog 20 #[.int .u64 0, .int .i64 32, .int .i64 p] w fun e w' => e = .returned (.tuple #[.int .i64 (sm (un 0 p 32)), .int .i64 (bad (un 0 p 32))]) ∧ Below w.heap.size w w') := Lib.hid (fun w => by
    have b1 : bsV 0 32 p = sm (un 0 p 32) := @bsV_n 0 p 32 (by decide) (by decide) (by rw [pw_32]; exact sb.2)
    have b2 : bsE 0 32 p = bad (un 0 p 32) := @bsE_n 0 p 32 (by decide) (by decide) (by rw [pw_32]; exact sb.2)
    rw [← b1, ← b2]; exact rbits_any 0 32 p w sb.1 hp)
  rw [sm_fit hu, bad_fit hu, if_pos hu] at HT
  rw [sm_fit hu, bad_fit hu] at HB
  have mb := ln_bd lb.1 lb.2
  have wh := whole_is lb.1
  have HW := Lib.hid (fun w => rwhole_true (lnN 0) 0 4294967296 w mb.1 mb.2 lb.1 lb.2 (.inl rfl) wh.1 wh.2)
  have HA := Lib.hid (fun w => sfromposix_any t w ht)
  have HP := Lib.hid (fun w => stoposix_any t w ht)
  have HRA := Lib.hid (fun w => ahead15_any t w ht)
  have HRB := Lib.hid (fun w => back15_any t w ht)
  have hE1 : 0 ≤ bad (t + 2208988800) ∧ bad (t + 2208988800) < 100 := by unfold bad; split <;> decide
  have hE2 : 0 ≤ bad (t - 2208988800) ∧ bad (t - 2208988800) < 100 := by unfold bad; split <;> decide
  have HE1 := Lib.hid hE1; have HE2 := Lib.hid hE2
  generalize bad (t + 2208988800) = E1 at *
  generalize bad (t - 2208988800) = E2 at *
  generalize sm (t + 2208988800) = X1 at *
  generalize sm (t - 2208988800) = X2 at *
  clear hE1 hE2
  generalize un 0 p 32 = U at *
  rw [show lnN 0 = 0 by decide] at HT HW mb
  clear wh
  have g1 : decide (n < 0) = true := decide_eq_true hlo
  clear ht hp hn ho hu lb sb hlo mb
  go_enter Try.func4, Try.ntmps4
  go_upto_region 4 with first
    | (go_at_call 8; refine (alive15_any _).mono ?_; rintro e w' ⟨rfl, rfl⟩)
    | (go_at_call 17; refine (HO.out _).mono ?_; rintro e w2 ⟨rfl, hb⟩; have B := Lib.hid hb; clear hb)
  obtain ⟨W2, hW2⟩ : ∃ W2, W2 = w2.alloc (.cells #[.int .u32 0, .int .u32 0] 43) := ⟨_, rfl⟩
  have K : Hid (W2.heap[w2.heap.size]? = some (.cells #[.int .u32 0, .int .u32 0] 43 (0, 0))) := Lib.hid (by rw [hW2]; exact heap_alloc_new _ _)
  replace B : Hid (Below w.heap.size w W2) := Lib.hid (by rw [hW2]; exact B.out.alloc B.out.size _)
  rw [← hW2]
  have hg : w2.heap.size < W2.heap.size := bk_lt K.out
  generalize w2.heap.size = g at *
  clear hW2 w2
  have HG := Lib.hid hg; clear hg
  have c0 := bk_cell K.out 0; have c1 := bk_cell K.out 1
  go_upto_region 13 with first
    | (go_at_call 14; refine (is_any 1 1 _ (by decide) (by decide)).mono ?_; rintro e w' ⟨rfl, rfl⟩)
    | (go_at_call 19; refine (HT.out _).mono ?_; rintro e w4 ⟨rfl, hb⟩; have K := Lib.hid ((hb.block _ HG.out).trans K.out); have c0 := bk_cell K.out 0; have c1 := bk_cell K.out 1; have HG := Lib.hid (Nat.lt_of_lt_of_le HG.out hb.size); have B := Lib.hid (B.out.trans (hb.mono B.out.size)); clear hb)
    | (go_at_call 20; refine (HB.out _).mono ?_; rintro e w5 ⟨rfl, hb⟩; have K := Lib.hid ((hb.block _ HG.out).trans K.out); have c0 := bk_cell K.out 0; have c1 := bk_cell K.out 1; have HG := Lib.hid (Nat.lt_of_lt_of_le HG.out hb.size); have B := Lib.hid (B.out.trans (hb.mono B.out.size)); clear hb)
    | (go_at_call 21; refine (num_any 0 _ (by decide) (by decide)).mono ?_; rintro e w' ⟨rfl, rfl⟩)
    | (go_at_call 10; refine (HW.out _).mono ?_; rintro e w' ⟨rfl, rfl⟩)
  go_wp2_with first
    | (go_at_call 22; refine (HA.out _).mono ?_; rintro e w' ⟨rfl, rfl⟩)
    | (go_at_call 23; refine (HP.out _).mono ?_; rintro e w' ⟨rfl, rfl⟩)
    | (go_at_call 24; refine (HRA.out _).mono ?_; rintro e w6 ⟨rfl, hb⟩; have B := Lib.hid (B.out.trans (hb.mono B.out.size)); clear hb)
    | (go_at_call 25; refine (HRB.out _).mono ?_; rintro e w7 ⟨rfl, hb⟩; have B := Lib.hid (B.out.trans (hb.mono B.out.size)); clear hb)
    | (go_at_call_of 21 (ev E1); refine (num_any E1 _ HE1.out.1 HE1.out.2).mono ?_; rintro e w' ⟨rfl, rfl⟩)
    | (go_at_call 21; refine (num_any E2 _ HE2.out.1 HE2.out.2).mono ?_; rintro e w' ⟨rfl, rfl⟩)
  go_ret
  exact ⟨by simp, B.out⟩

set_option maxHeartbeats 3200000 in
theorem times_low_over (t p n : Int) (w : World) (ht : fits t) (hp : fits p) (hn : fits n) (ho : okn n = false) (hlo : n < 0) (hu : ¬ fits (un 0 p 32)) :
    Calls Try.prog 4 #[.int .i64 t, .int .i64 p, .int .i64 n] w fun e w' => e = .returned (.bool true) ∧ Below w.heap.size w w' := by
  have q0 := fun op t W x k => guard_ev op t W x k
  have q1 := fun W k => eql_ev W k
  have q2 := fun W k => neq_ev W k
  have HO := Lib.hid (fun w => sof_any15 t n w ht hn)
  rw [(lf_no ho).1, (lf_no ho).2, ho, if_neg (by simp)] at HO
  have lb : (0 : Int) ≤ 0 ∧ (0 : Int) < 4294967296 := by decide
  have sb : (0 : Int) ≤ 0 ∧ (0 : Int) < 4294967296 := by decide
  have HT := Lib.hid (fun w => stime_any 0 0 p w sb.1 sb.2 lb.1 lb.2 hp)
  have HB : Hid (∀ w, Calls Try.prog 20 #[.int .u64 0, .int .i64 32, .int .i64 p] w fun e w' => e = .returned (.tuple #[.int .i64 (sm (un 0 p 32)), .int .i64 (bad (un 0 p 32))]) ∧ Below w.heap.size w w') := Lib.hid (fun w => by
    have b1 : bsV 0 32 p = sm (un 0 p 32) := @bsV_n 0 p 32 (by decide) (by decide) (by rw [pw_32]; exact sb.2)
    have b2 : bsE 0 32 p = bad (un 0 p 32) := @bsE_n 0 p 32 (by decide) (by decide) (by rw [pw_32]; exact sb.2)
    rw [← b1, ← b2]; exact rbits_any 0 32 p w sb.1 hp)
  rw [sm_no hu, bad_no hu, if_neg hu] at HT
  rw [sm_no hu, bad_no hu] at HB
  have HA := Lib.hid (fun w => sfromposix_any t w ht)
  have HP := Lib.hid (fun w => stoposix_any t w ht)
  have HRA := Lib.hid (fun w => ahead15_any t w ht)
  have HRB := Lib.hid (fun w => back15_any t w ht)
  have hE1 : 0 ≤ bad (t + 2208988800) ∧ bad (t + 2208988800) < 100 := by unfold bad; split <;> decide
  have hE2 : 0 ≤ bad (t - 2208988800) ∧ bad (t - 2208988800) < 100 := by unfold bad; split <;> decide
  have HE1 := Lib.hid hE1; have HE2 := Lib.hid hE2
  generalize bad (t + 2208988800) = E1 at *
  generalize bad (t - 2208988800) = E2 at *
  generalize sm (t + 2208988800) = X1 at *
  generalize sm (t - 2208988800) = X2 at *
  clear hE1 hE2
  have g1 : decide (n < 0) = true := decide_eq_true hlo
  clear ht hp hn ho hu lb sb hlo
  go_enter Try.func4, Try.ntmps4
  go_upto_region 4 with first
    | (go_at_call 8; refine (alive15_any _).mono ?_; rintro e w' ⟨rfl, rfl⟩)
    | (go_at_call 17; refine (HO.out _).mono ?_; rintro e w2 ⟨rfl, hb⟩; have B := Lib.hid hb; clear hb)
  obtain ⟨W2, hW2⟩ : ∃ W2, W2 = w2.alloc (.cells #[.int .u32 0, .int .u32 0] 43) := ⟨_, rfl⟩
  have K : Hid (W2.heap[w2.heap.size]? = some (.cells #[.int .u32 0, .int .u32 0] 43 (0, 0))) := Lib.hid (by rw [hW2]; exact heap_alloc_new _ _)
  replace B : Hid (Below w.heap.size w W2) := Lib.hid (by rw [hW2]; exact B.out.alloc B.out.size _)
  rw [← hW2]
  have hg : w2.heap.size < W2.heap.size := bk_lt K.out
  generalize w2.heap.size = g at *
  clear hW2 w2
  have HG := Lib.hid hg; clear hg
  have c0 := bk_cell K.out 0; have c1 := bk_cell K.out 1
  go_upto_region 13 with first
    | (go_at_call 14; refine (is_any 1 1 _ (by decide) (by decide)).mono ?_; rintro e w' ⟨rfl, rfl⟩)
    | (go_at_call 19; refine (HT.out _).mono ?_; rintro e w4 ⟨rfl, hb⟩; have K := Lib.hid ((hb.block _ HG.out).trans K.out); have c0 := bk_cell K.out 0; have c1 := bk_cell K.out 1; have HG := Lib.hid (Nat.lt_of_lt_of_le HG.out hb.size); have B := Lib.hid (B.out.trans (hb.mono B.out.size)); clear hb)
    | (go_at_call 20; refine (HB.out _).mono ?_; rintro e w5 ⟨rfl, hb⟩; have K := Lib.hid ((hb.block _ HG.out).trans K.out); have c0 := bk_cell K.out 0; have c1 := bk_cell K.out 1; have HG := Lib.hid (Nat.lt_of_lt_of_le HG.out hb.size); have B := Lib.hid (B.out.trans (hb.mono B.out.size)); clear hb)
    | (go_at_call 21; refine (num_any 5 _ (by decide) (by decide)).mono ?_; rintro e w' ⟨rfl, rfl⟩)
  go_wp2_with first
    | (go_at_call 22; refine (HA.out _).mono ?_; rintro e w' ⟨rfl, rfl⟩)
    | (go_at_call 23; refine (HP.out _).mono ?_; rintro e w' ⟨rfl, rfl⟩)
    | (go_at_call 24; refine (HRA.out _).mono ?_; rintro e w6 ⟨rfl, hb⟩; have B := Lib.hid (B.out.trans (hb.mono B.out.size)); clear hb)
    | (go_at_call 25; refine (HRB.out _).mono ?_; rintro e w7 ⟨rfl, hb⟩; have B := Lib.hid (B.out.trans (hb.mono B.out.size)); clear hb)
    | (go_at_call_of 21 (ev E1); refine (num_any E1 _ HE1.out.1 HE1.out.2).mono ?_; rintro e w' ⟨rfl, rfl⟩)
    | (go_at_call 21; refine (num_any E2 _ HE2.out.1 HE2.out.2).mono ?_; rintro e w' ⟨rfl, rfl⟩)
  go_ret
  exact ⟨by simp, B.out⟩

set_option maxHeartbeats 3200000 in
theorem times_high (t p n : Int) (w : World) (ht : fits t) (hp : fits p) (hn : fits n) (ho : okn n = false) (hlo : 0 ≤ n) (hhi : 999999999 < n) (hu : fits (un 0 p 32)) :
    Calls Try.prog 4 #[.int .i64 t, .int .i64 p, .int .i64 n] w fun e w' => e = .returned (.bool true) ∧ Below w.heap.size w w' := by
  have q0 := fun op t W x k => guard_ev op t W x k
  have q1 := fun W k => eql_ev W k
  have q2 := fun W k => neq_ev W k
  have HO := Lib.hid (fun w => sof_any15 t n w ht hn)
  rw [(lf_no ho).1, (lf_no ho).2, ho, if_neg (by simp)] at HO
  have lb : (0 : Int) ≤ 0 ∧ (0 : Int) < 4294967296 := by decide
  have sb : (0 : Int) ≤ 0 ∧ (0 : Int) < 4294967296 := by decide
  have HT := Lib.hid (fun w => stime_any 0 0 p w sb.1 sb.2 lb.1 lb.2 hp)
  have HB : Hid (∀ w, Calls Try.prog 20 #[.int .u64 0, .int .i64 32, .int .i64 p] w fun e w' => e = .returned (.tuple #[.int .i64 (sm (un 0 p 32)), .int .i64 (bad (un 0 p 32))]) ∧ Below w.heap.size w w') := Lib.hid (fun w => by
    have b1 : bsV 0 32 p = sm (un 0 p 32) := @bsV_n 0 p 32 (by decide) (by decide) (by rw [pw_32]; exact sb.2)
    have b2 : bsE 0 32 p = bad (un 0 p 32) := @bsE_n 0 p 32 (by decide) (by decide) (by rw [pw_32]; exact sb.2)
    rw [← b1, ← b2]; exact rbits_any 0 32 p w sb.1 hp)
  rw [sm_fit hu, bad_fit hu, if_pos hu] at HT
  rw [sm_fit hu, bad_fit hu] at HB
  have mb := ln_bd lb.1 lb.2
  have wh := whole_is lb.1
  have HW := Lib.hid (fun w => rwhole_true (lnN 0) 0 4294967296 w mb.1 mb.2 lb.1 lb.2 (.inl rfl) wh.1 wh.2)
  have HA := Lib.hid (fun w => sfromposix_any t w ht)
  have HP := Lib.hid (fun w => stoposix_any t w ht)
  have HRA := Lib.hid (fun w => ahead15_any t w ht)
  have HRB := Lib.hid (fun w => back15_any t w ht)
  have hE1 : 0 ≤ bad (t + 2208988800) ∧ bad (t + 2208988800) < 100 := by unfold bad; split <;> decide
  have hE2 : 0 ≤ bad (t - 2208988800) ∧ bad (t - 2208988800) < 100 := by unfold bad; split <;> decide
  have HE1 := Lib.hid hE1; have HE2 := Lib.hid hE2
  generalize bad (t + 2208988800) = E1 at *
  generalize bad (t - 2208988800) = E2 at *
  generalize sm (t + 2208988800) = X1 at *
  generalize sm (t - 2208988800) = X2 at *
  clear hE1 hE2
  generalize un 0 p 32 = U at *
  rw [show lnN 0 = 0 by decide] at HT HW mb
  clear wh
  have g1 : decide (n < 0) = false := decide_eq_false (by omega)
  have g2 : decide (999999999 < n) = true := decide_eq_true hhi
  clear ht hp hn ho hu lb sb hlo hhi mb
  go_enter Try.func4, Try.ntmps4
  go_upto_region 4 with first
    | (go_at_call 8; refine (alive15_any _).mono ?_; rintro e w' ⟨rfl, rfl⟩)
    | (go_at_call 17; refine (HO.out _).mono ?_; rintro e w2 ⟨rfl, hb⟩; have B := Lib.hid hb; clear hb)
  obtain ⟨W2, hW2⟩ : ∃ W2, W2 = w2.alloc (.cells #[.int .u32 0, .int .u32 0] 43) := ⟨_, rfl⟩
  have K : Hid (W2.heap[w2.heap.size]? = some (.cells #[.int .u32 0, .int .u32 0] 43 (0, 0))) := Lib.hid (by rw [hW2]; exact heap_alloc_new _ _)
  replace B : Hid (Below w.heap.size w W2) := Lib.hid (by rw [hW2]; exact B.out.alloc B.out.size _)
  rw [← hW2]
  have hg : w2.heap.size < W2.heap.size := bk_lt K.out
  generalize w2.heap.size = g at *
  clear hW2 w2
  have HG := Lib.hid hg; clear hg
  have c0 := bk_cell K.out 0; have c1 := bk_cell K.out 1
  go_upto_region 13 with first
    | (go_at_call 14; refine (is_any 1 1 _ (by decide) (by decide)).mono ?_; rintro e w' ⟨rfl, rfl⟩)
    | (go_at_call 19; refine (HT.out _).mono ?_; rintro e w4 ⟨rfl, hb⟩; have K := Lib.hid ((hb.block _ HG.out).trans K.out); have c0 := bk_cell K.out 0; have c1 := bk_cell K.out 1; have HG := Lib.hid (Nat.lt_of_lt_of_le HG.out hb.size); have B := Lib.hid (B.out.trans (hb.mono B.out.size)); clear hb)
    | (go_at_call 20; refine (HB.out _).mono ?_; rintro e w5 ⟨rfl, hb⟩; have K := Lib.hid ((hb.block _ HG.out).trans K.out); have c0 := bk_cell K.out 0; have c1 := bk_cell K.out 1; have HG := Lib.hid (Nat.lt_of_lt_of_le HG.out hb.size); have B := Lib.hid (B.out.trans (hb.mono B.out.size)); clear hb)
    | (go_at_call 21; refine (num_any 0 _ (by decide) (by decide)).mono ?_; rintro e w' ⟨rfl, rfl⟩)
    | (go_at_call 10; refine (HW.out _).mono ?_; rintro e w' ⟨rfl, rfl⟩)
  go_wp2_with first
    | (go_at_call 22; refine (HA.out _).mono ?_; rintro e w' ⟨rfl, rfl⟩)
    | (go_at_call 23; refine (HP.out _).mono ?_; rintro e w' ⟨rfl, rfl⟩)
    | (go_at_call 24; refine (HRA.out _).mono ?_; rintro e w6 ⟨rfl, hb⟩; have B := Lib.hid (B.out.trans (hb.mono B.out.size)); clear hb)
    | (go_at_call 25; refine (HRB.out _).mono ?_; rintro e w7 ⟨rfl, hb⟩; have B := Lib.hid (B.out.trans (hb.mono B.out.size)); clear hb)
    | (go_at_call_of 21 (ev E1); refine (num_any E1 _ HE1.out.1 HE1.out.2).mono ?_; rintro e w' ⟨rfl, rfl⟩)
    | (go_at_call 21; refine (num_any E2 _ HE2.out.1 HE2.out.2).mono ?_; rintro e w' ⟨rfl, rfl⟩)
  go_ret
  exact ⟨by simp, B.out⟩

set_option maxHeartbeats 3200000 in
theorem times_high_over (t p n : Int) (w : World) (ht : fits t) (hp : fits p) (hn : fits n) (ho : okn n = false) (hlo : 0 ≤ n) (hhi : 999999999 < n) (hu : ¬ fits (un 0 p 32)) :
    Calls Try.prog 4 #[.int .i64 t, .int .i64 p, .int .i64 n] w fun e w' => e = .returned (.bool true) ∧ Below w.heap.size w w' := by
  have q0 := fun op t W x k => guard_ev op t W x k
  have q1 := fun W k => eql_ev W k
  have q2 := fun W k => neq_ev W k
  have HO := Lib.hid (fun w => sof_any15 t n w ht hn)
  rw [(lf_no ho).1, (lf_no ho).2, ho, if_neg (by simp)] at HO
  have lb : (0 : Int) ≤ 0 ∧ (0 : Int) < 4294967296 := by decide
  have sb : (0 : Int) ≤ 0 ∧ (0 : Int) < 4294967296 := by decide
  have HT := Lib.hid (fun w => stime_any 0 0 p w sb.1 sb.2 lb.1 lb.2 hp)
  have HB : Hid (∀ w, Calls Try.prog 20 #[.int .u64 0, .int .i64 32, .int .i64 p] w fun e w' => e = .returned (.tuple #[.int .i64 (sm (un 0 p 32)), .int .i64 (bad (un 0 p 32))]) ∧ Below w.heap.size w w') := Lib.hid (fun w => by
    have b1 : bsV 0 32 p = sm (un 0 p 32) := @bsV_n 0 p 32 (by decide) (by decide) (by rw [pw_32]; exact sb.2)
    have b2 : bsE 0 32 p = bad (un 0 p 32) := @bsE_n 0 p 32 (by decide) (by decide) (by rw [pw_32]; exact sb.2)
    rw [← b1, ← b2]; exact rbits_any 0 32 p w sb.1 hp)
  rw [sm_no hu, bad_no hu, if_neg hu] at HT
  rw [sm_no hu, bad_no hu] at HB
  have HA := Lib.hid (fun w => sfromposix_any t w ht)
  have HP := Lib.hid (fun w => stoposix_any t w ht)
  have HRA := Lib.hid (fun w => ahead15_any t w ht)
  have HRB := Lib.hid (fun w => back15_any t w ht)
  have hE1 : 0 ≤ bad (t + 2208988800) ∧ bad (t + 2208988800) < 100 := by unfold bad; split <;> decide
  have hE2 : 0 ≤ bad (t - 2208988800) ∧ bad (t - 2208988800) < 100 := by unfold bad; split <;> decide
  have HE1 := Lib.hid hE1; have HE2 := Lib.hid hE2
  generalize bad (t + 2208988800) = E1 at *
  generalize bad (t - 2208988800) = E2 at *
  generalize sm (t + 2208988800) = X1 at *
  generalize sm (t - 2208988800) = X2 at *
  clear hE1 hE2
  have g1 : decide (n < 0) = false := decide_eq_false (by omega)
  have g2 : decide (999999999 < n) = true := decide_eq_true hhi
  clear ht hp hn ho hu lb sb hlo hhi
  go_enter Try.func4, Try.ntmps4
  go_upto_region 4 with first
    | (go_at_call 8; refine (alive15_any _).mono ?_; rintro e w' ⟨rfl, rfl⟩)
    | (go_at_call 17; refine (HO.out _).mono ?_; rintro e w2 ⟨rfl, hb⟩; have B := Lib.hid hb; clear hb)
  obtain ⟨W2, hW2⟩ : ∃ W2, W2 = w2.alloc (.cells #[.int .u32 0, .int .u32 0] 43) := ⟨_, rfl⟩
  have K : Hid (W2.heap[w2.heap.size]? = some (.cells #[.int .u32 0, .int .u32 0] 43 (0, 0))) := Lib.hid (by rw [hW2]; exact heap_alloc_new _ _)
  replace B : Hid (Below w.heap.size w W2) := Lib.hid (by rw [hW2]; exact B.out.alloc B.out.size _)
  rw [← hW2]
  have hg : w2.heap.size < W2.heap.size := bk_lt K.out
  generalize w2.heap.size = g at *
  clear hW2 w2
  have HG := Lib.hid hg; clear hg
  have c0 := bk_cell K.out 0; have c1 := bk_cell K.out 1
  go_upto_region 13 with first
    | (go_at_call 14; refine (is_any 1 1 _ (by decide) (by decide)).mono ?_; rintro e w' ⟨rfl, rfl⟩)
    | (go_at_call 19; refine (HT.out _).mono ?_; rintro e w4 ⟨rfl, hb⟩; have K := Lib.hid ((hb.block _ HG.out).trans K.out); have c0 := bk_cell K.out 0; have c1 := bk_cell K.out 1; have HG := Lib.hid (Nat.lt_of_lt_of_le HG.out hb.size); have B := Lib.hid (B.out.trans (hb.mono B.out.size)); clear hb)
    | (go_at_call 20; refine (HB.out _).mono ?_; rintro e w5 ⟨rfl, hb⟩; have K := Lib.hid ((hb.block _ HG.out).trans K.out); have c0 := bk_cell K.out 0; have c1 := bk_cell K.out 1; have HG := Lib.hid (Nat.lt_of_lt_of_le HG.out hb.size); have B := Lib.hid (B.out.trans (hb.mono B.out.size)); clear hb)
    | (go_at_call 21; refine (num_any 5 _ (by decide) (by decide)).mono ?_; rintro e w' ⟨rfl, rfl⟩)
  go_wp2_with first
    | (go_at_call 22; refine (HA.out _).mono ?_; rintro e w' ⟨rfl, rfl⟩)
    | (go_at_call 23; refine (HP.out _).mono ?_; rintro e w' ⟨rfl, rfl⟩)
    | (go_at_call 24; refine (HRA.out _).mono ?_; rintro e w6 ⟨rfl, hb⟩; have B := Lib.hid (B.out.trans (hb.mono B.out.size)); clear hb)
    | (go_at_call 25; refine (HRB.out _).mono ?_; rintro e w7 ⟨rfl, hb⟩; have B := Lib.hid (B.out.trans (hb.mono B.out.size)); clear hb)
    | (go_at_call_of 21 (ev E1); refine (num_any E1 _ HE1.out.1 HE1.out.2).mono ?_; rintro e w' ⟨rfl, rfl⟩)
    | (go_at_call 21; refine (num_any E2 _ HE2.out.1 HE2.out.2).mono ?_; rintro e w' ⟨rfl, rfl⟩)
  go_ret
  exact ⟨by simp, B.out⟩

set_option maxHeartbeats 3200000 in
theorem times_yes (t p n : Int) (w : World) (ht : fits t) (hp : fits p) (hn : fits n) (ho : okn n = true) (hu : fits (un (t % 4294967296) p 32)) :
    Calls Try.prog 4 #[.int .i64 t, .int .i64 p, .int .i64 n] w fun e w' => e = .returned (.bool true) ∧ Below w.heap.size w w' := by
  have q0 := fun op t W x k => guard_ev op t W x k
  have q1 := fun W k => eql_ev W k
  have q2 := fun W k => neq_ev W k
  have HO := Lib.hid (fun w => sof_any15 t n w ht hn)
  rw [(lf_yes ho).1, ho, if_pos rfl] at HO
  have lb := lf_bd n
  obtain ⟨n0, n1⟩ := okn_yes ho
  have le := least_is ho
  have HLe := Lib.hid (fun w => rleast_true n (lfN n) w n0 n1 lb.1 lb.2 le.1 le.2)
  have HF : Hid (∀ w, Calls Try.prog 18 #[.int .i64 t, .int .i64 32] w fun e w' => e = .returned (.int .i64 (t % 4294967296)) ∧ w = w') := Lib.hid (fun w => rfold_any t 32 w ht (by decide))
  have sb : 0 ≤ t % 4294967296 ∧ t % 4294967296 < 4294967296 := by omega
  have HT := Lib.hid (fun w => stime_any (t % 4294967296) (lfN n) p w sb.1 sb.2 lb.1 lb.2 hp)
  have HB : Hid (∀ w, Calls Try.prog 20 #[.int .u64 (t % 4294967296), .int .i64 32, .int .i64 p] w fun e w' => e = .returned (.tuple #[.int .i64 (sm (un (t % 4294967296) p 32)), .int .i64 (bad (un (t % 4294967296) p 32))]) ∧ Below w.heap.size w w') := Lib.hid (fun w => by
    have b1 : bsV (t % 4294967296) 32 p = sm (un (t % 4294967296) p 32) := @bsV_n (t % 4294967296) p 32 (by decide) (by decide) (by rw [pw_32]; exact sb.2)
    have b2 : bsE (t % 4294967296) 32 p = bad (un (t % 4294967296) p 32) := @bsE_n (t % 4294967296) p 32 (by decide) (by decide) (by rw [pw_32]; exact sb.2)
    rw [← b1, ← b2]; exact rbits_any (t % 4294967296) 32 p w sb.1 hp)
  rw [sm_fit hu, bad_fit hu, if_pos hu] at HT
  rw [sm_fit hu, bad_fit hu] at HB
  have mb := ln_bd lb.1 lb.2
  have wh := whole_is lb.1
  have HW := Lib.hid (fun w => rwhole_true (lnN (lfN n)) (lfN n) 4294967296 w mb.1 mb.2 lb.1 lb.2 (.inl rfl) wh.1 wh.2)
  have HA := Lib.hid (fun w => sfromposix_any t w ht)
  have HP := Lib.hid (fun w => stoposix_any t w ht)
  have HRA := Lib.hid (fun w => ahead15_any t w ht)
  have HRB := Lib.hid (fun w => back15_any t w ht)
  have hE1 : 0 ≤ bad (t + 2208988800) ∧ bad (t + 2208988800) < 100 := by unfold bad; split <;> decide
  have hE2 : 0 ≤ bad (t - 2208988800) ∧ bad (t - 2208988800) < 100 := by unfold bad; split <;> decide
  have HE1 := Lib.hid hE1; have HE2 := Lib.hid hE2
  generalize bad (t + 2208988800) = E1 at *
  generalize bad (t - 2208988800) = E2 at *
  generalize sm (t + 2208988800) = X1 at *
  generalize sm (t - 2208988800) = X2 at *
  clear hE1 hE2
  generalize un (t % 4294967296) p 32 = U at *
  generalize lfN n = F at *
  generalize hS : t % 4294967296 = S at *
  generalize lnN F = M at *
  have k1 : IntKind.u64.wrap S = S := IntWalk.u64_in _ (by omega)
  have k2 : IntKind.u64.wrap F = F := IntWalk.u64_in _ (by omega)
  have k3 : IntKind.i64.wrap S = S := IntWalk.i64_in _ (by omega)
  have k4 : IntKind.u64.wrap n = n := IntWalk.u64_in _ (by omega)
  have g1 : decide (n < 0) = false := decide_eq_false (by omega)
  have g2 : decide (999999999 < n) = false := decide_eq_false (by omega)
  have k5 : IntKind.u64.wrap M = M := IntWalk.u64_in _ (by omega)
  have g3 : decide (M < 0) = false := decide_eq_false (by omega)
  clear ht hp hn ho hu lb sb n0 n1 le hS mb wh
  go_enter Try.func4, Try.ntmps4
  go_upto_region 4 with first
    | (go_at_call 8; refine (alive15_any _).mono ?_; rintro e w' ⟨rfl, rfl⟩)
    | (go_at_call 17; refine (HO.out _).mono ?_; rintro e w2 ⟨rfl, hb⟩; have B := Lib.hid hb; clear hb)
  obtain ⟨W2, hW2⟩ : ∃ W2, W2 = w2.alloc (.cells #[.int .u32 S, .int .u32 F] 43) := ⟨_, rfl⟩
  have K : Hid (W2.heap[w2.heap.size]? = some (.cells #[.int .u32 S, .int .u32 F] 43 (0, 0))) := Lib.hid (by rw [hW2]; exact heap_alloc_new _ _)
  replace B : Hid (Below w.heap.size w W2) := Lib.hid (by rw [hW2]; exact B.out.alloc B.out.size _)
  rw [← hW2]
  have hg : w2.heap.size < W2.heap.size := bk_lt K.out
  generalize w2.heap.size = g at *
  clear hW2 w2
  have HG := Lib.hid hg; clear hg
  have c0 := bk_cell K.out 0; have c1 := bk_cell K.out 1
  have cd0 : W2.drew.cell? ⟨g, 0, none⟩ = some (.int .u32 S) := c0
  have cd1 : W2.drew.cell? ⟨g, 1, none⟩ = some (.int .u32 F) := c1
  go_upto_region 7 with fail
  go_quiet ((first
    | (go_at_call 18; exact Calls.quiet_of_same ((HF.out _).mono fun _ _ h => ⟨h.1, h.2.symm⟩))
    | (go_at_call 15; exact Calls.quiet_of_same ((HLe.out _).mono fun _ _ h => ⟨h.1, h.2.symm⟩))))
  obtain ⟨W3, hW3⟩ : ∃ W3, W3 = W2.drewN nq := ⟨_, rfl⟩
  replace K : Hid (W3.heap[g]? = some (.cells #[.int .u32 S, .int .u32 F] 43 (0, 0))) := Lib.hid (by rw [hW3]; exact K.out)
  replace B : Hid (Below w.heap.size w W3) := Lib.hid (by rw [hW3]; exact B.out.trans ⟨rfl, rfl, rfl, Nat.le_refl _, fun _ _ => rfl⟩)
  replace HG : Hid (g < W3.heap.size) := Lib.hid (by rw [hW3]; exact HG.out)
  rw [← hW3]
  clear c0 c1 cd0 cd1 hW3 W2
  have c0 := bk_cell K.out 0; have c1 := bk_cell K.out 1
  go_upto_region 13 with first
    | (go_at_call 19; refine (HT.out _).mono ?_; rintro e w4 ⟨rfl, hb⟩; have K := Lib.hid ((hb.block _ HG.out).trans K.out); have c0 := bk_cell K.out 0; have c1 := bk_cell K.out 1; have HG := Lib.hid (Nat.lt_of_lt_of_le HG.out hb.size); have B := Lib.hid (B.out.trans (hb.mono B.out.size)); clear hb)
    | (go_at_call 20; refine (HB.out _).mono ?_; rintro e w5 ⟨rfl, hb⟩; have K := Lib.hid ((hb.block _ HG.out).trans K.out); have c0 := bk_cell K.out 0; have c1 := bk_cell K.out 1; have HG := Lib.hid (Nat.lt_of_lt_of_le HG.out hb.size); have B := Lib.hid (B.out.trans (hb.mono B.out.size)); clear hb)
    | (go_at_call 21; refine (num_any 0 _ (by decide) (by decide)).mono ?_; rintro e w' ⟨rfl, rfl⟩)
    | (go_at_call 10; refine (HW.out _).mono ?_; rintro e w' ⟨rfl, rfl⟩)
  go_wp2_with first
    | (go_at_call 22; refine (HA.out _).mono ?_; rintro e w' ⟨rfl, rfl⟩)
    | (go_at_call 23; refine (HP.out _).mono ?_; rintro e w' ⟨rfl, rfl⟩)
    | (go_at_call 24; refine (HRA.out _).mono ?_; rintro e w6 ⟨rfl, hb⟩; have B := Lib.hid (B.out.trans (hb.mono B.out.size)); clear hb)
    | (go_at_call 25; refine (HRB.out _).mono ?_; rintro e w7 ⟨rfl, hb⟩; have B := Lib.hid (B.out.trans (hb.mono B.out.size)); clear hb)
    | (go_at_call_of 21 (ev E1); refine (num_any E1 _ HE1.out.1 HE1.out.2).mono ?_; rintro e w' ⟨rfl, rfl⟩)
    | (go_at_call 21; refine (num_any E2 _ HE2.out.1 HE2.out.2).mono ?_; rintro e w' ⟨rfl, rfl⟩)
  go_ret
  exact ⟨by simp, B.out⟩

set_option maxHeartbeats 3200000 in
theorem times_yes_over (t p n : Int) (w : World) (ht : fits t) (hp : fits p) (hn : fits n) (ho : okn n = true) (hu : ¬ fits (un (t % 4294967296) p 32)) :
    Calls Try.prog 4 #[.int .i64 t, .int .i64 p, .int .i64 n] w fun e w' => e = .returned (.bool true) ∧ Below w.heap.size w w' := by
  have q0 := fun op t W x k => guard_ev op t W x k
  have q1 := fun W k => eql_ev W k
  have q2 := fun W k => neq_ev W k
  have HO := Lib.hid (fun w => sof_any15 t n w ht hn)
  rw [(lf_yes ho).1, ho, if_pos rfl] at HO
  have lb := lf_bd n
  obtain ⟨n0, n1⟩ := okn_yes ho
  have le := least_is ho
  have HLe := Lib.hid (fun w => rleast_true n (lfN n) w n0 n1 lb.1 lb.2 le.1 le.2)
  have HF : Hid (∀ w, Calls Try.prog 18 #[.int .i64 t, .int .i64 32] w fun e w' => e = .returned (.int .i64 (t % 4294967296)) ∧ w = w') := Lib.hid (fun w => rfold_any t 32 w ht (by decide))
  have sb : 0 ≤ t % 4294967296 ∧ t % 4294967296 < 4294967296 := by omega
  have HT := Lib.hid (fun w => stime_any (t % 4294967296) (lfN n) p w sb.1 sb.2 lb.1 lb.2 hp)
  have HB : Hid (∀ w, Calls Try.prog 20 #[.int .u64 (t % 4294967296), .int .i64 32, .int .i64 p] w fun e w' => e = .returned (.tuple #[.int .i64 (sm (un (t % 4294967296) p 32)), .int .i64 (bad (un (t % 4294967296) p 32))]) ∧ Below w.heap.size w w') := Lib.hid (fun w => by
    have b1 : bsV (t % 4294967296) 32 p = sm (un (t % 4294967296) p 32) := @bsV_n (t % 4294967296) p 32 (by decide) (by decide) (by rw [pw_32]; exact sb.2)
    have b2 : bsE (t % 4294967296) 32 p = bad (un (t % 4294967296) p 32) := @bsE_n (t % 4294967296) p 32 (by decide) (by decide) (by rw [pw_32]; exact sb.2)
    rw [← b1, ← b2]; exact rbits_any (t % 4294967296) 32 p w sb.1 hp)
  rw [sm_no hu, bad_no hu, if_neg hu] at HT
  rw [sm_no hu, bad_no hu] at HB
  have HA := Lib.hid (fun w => sfromposix_any t w ht)
  have HP := Lib.hid (fun w => stoposix_any t w ht)
  have HRA := Lib.hid (fun w => ahead15_any t w ht)
  have HRB := Lib.hid (fun w => back15_any t w ht)
  have hE1 : 0 ≤ bad (t + 2208988800) ∧ bad (t + 2208988800) < 100 := by unfold bad; split <;> decide
  have hE2 : 0 ≤ bad (t - 2208988800) ∧ bad (t - 2208988800) < 100 := by unfold bad; split <;> decide
  have HE1 := Lib.hid hE1; have HE2 := Lib.hid hE2
  generalize bad (t + 2208988800) = E1 at *
  generalize bad (t - 2208988800) = E2 at *
  generalize sm (t + 2208988800) = X1 at *
  generalize sm (t - 2208988800) = X2 at *
  clear hE1 hE2
  generalize lfN n = F at *
  generalize hS : t % 4294967296 = S at *
  have k1 : IntKind.u64.wrap S = S := IntWalk.u64_in _ (by omega)
  have k2 : IntKind.u64.wrap F = F := IntWalk.u64_in _ (by omega)
  have k3 : IntKind.i64.wrap S = S := IntWalk.i64_in _ (by omega)
  have k4 : IntKind.u64.wrap n = n := IntWalk.u64_in _ (by omega)
  have g1 : decide (n < 0) = false := decide_eq_false (by omega)
  have g2 : decide (999999999 < n) = false := decide_eq_false (by omega)
  clear ht hp hn ho hu lb sb n0 n1 le hS
  go_enter Try.func4, Try.ntmps4
  go_upto_region 4 with first
    | (go_at_call 8; refine (alive15_any _).mono ?_; rintro e w' ⟨rfl, rfl⟩)
    | (go_at_call 17; refine (HO.out _).mono ?_; rintro e w2 ⟨rfl, hb⟩; have B := Lib.hid hb; clear hb)
  obtain ⟨W2, hW2⟩ : ∃ W2, W2 = w2.alloc (.cells #[.int .u32 S, .int .u32 F] 43) := ⟨_, rfl⟩
  have K : Hid (W2.heap[w2.heap.size]? = some (.cells #[.int .u32 S, .int .u32 F] 43 (0, 0))) := Lib.hid (by rw [hW2]; exact heap_alloc_new _ _)
  replace B : Hid (Below w.heap.size w W2) := Lib.hid (by rw [hW2]; exact B.out.alloc B.out.size _)
  rw [← hW2]
  have hg : w2.heap.size < W2.heap.size := bk_lt K.out
  generalize w2.heap.size = g at *
  clear hW2 w2
  have HG := Lib.hid hg; clear hg
  have c0 := bk_cell K.out 0; have c1 := bk_cell K.out 1
  have cd0 : W2.drew.cell? ⟨g, 0, none⟩ = some (.int .u32 S) := c0
  have cd1 : W2.drew.cell? ⟨g, 1, none⟩ = some (.int .u32 F) := c1
  go_upto_region 7 with fail
  go_quiet ((first
    | (go_at_call 18; exact Calls.quiet_of_same ((HF.out _).mono fun _ _ h => ⟨h.1, h.2.symm⟩))
    | (go_at_call 15; exact Calls.quiet_of_same ((HLe.out _).mono fun _ _ h => ⟨h.1, h.2.symm⟩))))
  obtain ⟨W3, hW3⟩ : ∃ W3, W3 = W2.drewN nq := ⟨_, rfl⟩
  replace K : Hid (W3.heap[g]? = some (.cells #[.int .u32 S, .int .u32 F] 43 (0, 0))) := Lib.hid (by rw [hW3]; exact K.out)
  replace B : Hid (Below w.heap.size w W3) := Lib.hid (by rw [hW3]; exact B.out.trans ⟨rfl, rfl, rfl, Nat.le_refl _, fun _ _ => rfl⟩)
  replace HG : Hid (g < W3.heap.size) := Lib.hid (by rw [hW3]; exact HG.out)
  rw [← hW3]
  clear c0 c1 cd0 cd1 hW3 W2
  have c0 := bk_cell K.out 0; have c1 := bk_cell K.out 1
  go_upto_region 13 with first
    | (go_at_call 19; refine (HT.out _).mono ?_; rintro e w4 ⟨rfl, hb⟩; have K := Lib.hid ((hb.block _ HG.out).trans K.out); have c0 := bk_cell K.out 0; have c1 := bk_cell K.out 1; have HG := Lib.hid (Nat.lt_of_lt_of_le HG.out hb.size); have B := Lib.hid (B.out.trans (hb.mono B.out.size)); clear hb)
    | (go_at_call 20; refine (HB.out _).mono ?_; rintro e w5 ⟨rfl, hb⟩; have K := Lib.hid ((hb.block _ HG.out).trans K.out); have c0 := bk_cell K.out 0; have c1 := bk_cell K.out 1; have HG := Lib.hid (Nat.lt_of_lt_of_le HG.out hb.size); have B := Lib.hid (B.out.trans (hb.mono B.out.size)); clear hb)
    | (go_at_call 21; refine (num_any 5 _ (by decide) (by decide)).mono ?_; rintro e w' ⟨rfl, rfl⟩)
  go_wp2_with first
    | (go_at_call 22; refine (HA.out _).mono ?_; rintro e w' ⟨rfl, rfl⟩)
    | (go_at_call 23; refine (HP.out _).mono ?_; rintro e w' ⟨rfl, rfl⟩)
    | (go_at_call 24; refine (HRA.out _).mono ?_; rintro e w6 ⟨rfl, hb⟩; have B := Lib.hid (B.out.trans (hb.mono B.out.size)); clear hb)
    | (go_at_call 25; refine (HRB.out _).mono ?_; rintro e w7 ⟨rfl, hb⟩; have B := Lib.hid (B.out.trans (hb.mono B.out.size)); clear hb)
    | (go_at_call_of 21 (ev E1); refine (num_any E1 _ HE1.out.1 HE1.out.2).mono ?_; rintro e w' ⟨rfl, rfl⟩)
    | (go_at_call 21; refine (num_any E2 _ HE2.out.1 HE2.out.2).mono ?_; rintro e w' ⟨rfl, rfl⟩)
  go_ret
  exact ⟨by simp, B.out⟩

theorem times_walk (t p n : Int) (w : World) (ht : fits t) (hp : fits p) (hn : fits n) :
    Calls Try.prog 4 #[.int .i64 t, .int .i64 p, .int .i64 n] w fun e w' => e = .returned (.bool true) ∧ Below w.heap.size w w' := by
  cases ho : okn n with
  | false =>
    by_cases hu : fits (un 0 p 32)
    · rcases okn_no ho with h | ⟨h, g⟩
      · exact times_low t p n w ht hp hn ho h hu
      · exact times_high t p n w ht hp hn ho h g hu
    · rcases okn_no ho with h | ⟨h, g⟩
      · exact times_low_over t p n w ht hp hn ho h hu
      · exact times_high_over t p n w ht hp hn ho h g hu
  | true =>
    by_cases hu : fits (un (t % 4294967296) p 32)
    · exact times_yes t p n w ht hp hn ho hu
    · exact times_yes_over t p n w ht hp hn ho hu
end Go.Proofs.Ytbffpallhofonaa
