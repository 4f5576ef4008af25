/- StampBack. (Written by gen_stp.py.) -/
import Derived.Test.YtbffpallhofonaaStpF
import Derived.Deep.QuietTactic
import Derived.Deep.DeepCutAuto
namespace Go.Proofs.Ytbffpallhofonaa
open Go.RowKit Go.WideShapes Go.ChangeShapes
set_option linter.unusedVariables false
set_option linter.unusedSimpArgs false

set_option maxRecDepth 100000 in
set_option maxHeartbeats 4000000 in
theorem sback_low (t a b n : Int) (w : World) (ht : fits t) (ha : -2147483648 ≤ a ∧ a < 2147483648) (hb : -2147483648 ≤ b ∧ b < 2147483648) (hn : fits n) (ho : okn n = false) (hlo : n < 0) :
    Calls Try.prog 6 #[.int .i64 t, .agg #[.int .i32 a, .int .i32 b], .int .i64 n] w fun e w' => e = .returned (.bool true) ∧ Below w.heap.size w w' := by
  have q0 := fun op t W x k => guard_ev op t W x k
  have q1 := fun W k => eql_ev W k
  have q2 := fun W k => neq_ev W k
  have f0 : 0 ≤ b % 4294967296 ∧ b % 4294967296 < 4294967296 := by omega
  have r0 : IntKind.u32.wrap b = b % 4294967296 := IntKind.wrap_u32 b
  have HN0 := Lib.hid (fun w => snano_any (b % 4294967296) w f0.1 f0.2)
  have lb0 := ln_bd f0.1 f0.2
  have HF0 := Lib.hid (fun w => sfraction_any (lnN (b % 4294967296)) w (by unfold fits; omega))
  rw [(lf_yes (ln_ok f0.1 f0.2)).1] at HF0
  have hq := lf_ln f0.1 f0.2
  have hq0 := lf_bd (lnN (b % 4294967296))
  have d1 : decide (b % 4294967296 < lfN (lnN (b % 4294967296))) = false := decide_eq_false (by omega)
  have d2 : decide (4 < b % 4294967296 - lfN (lnN (b % 4294967296))) = false := decide_eq_false (by omega)
  have r1 : IntKind.u32.wrap (b % 4294967296 - lfN (lnN (b % 4294967296))) = b % 4294967296 - lfN (lnN (b % 4294967296)) := by rw [IntKind.wrap_u32]; omega
  clear hq hq0 lb0 f0
  generalize lfN (lnN (b % 4294967296)) = K at *
  generalize hM : lnN (b % 4294967296) = M at *
  clear hM
  have HO := Lib.hid (fun w => sof_any15 t n w ht hn)
  rw [(lf_no ho).1, (lf_no ho).2, ho, if_neg (by simp)] at HO
  have g1 : decide (n < 0) = true := decide_eq_true hlo
  obtain ⟨W0, hW0⟩ : ∃ W0, W0 = w.alloc (.cells #[.int .i32 a, .int .i32 b] 67) := ⟨_, rfl⟩
  have B : Hid (Below w.heap.size w W0) := Lib.hid (by rw [hW0]; exact (Below.refl _ _).alloc (Nat.le_refl _) _)
  have hl : W0.heap[w.heap.size]? = some (.cells #[.int .i32 a, .int .i32 b] 67 (0, 0)) := by rw [hW0]; exact heap_alloc_new _ _
  have c0 := bk_cell hl 0; have c1 := bk_cell hl 1
  have e0 : W0.drew.cell? ⟨w.heap.size, 0, none⟩ = some (.int .i32 a) := c0
  have e1 : W0.drew.cell? ⟨w.heap.size, 1, none⟩ = some (.int .i32 b) := c1
  clear hl ht ha hb hn ho hlo
  go_enter Try.func6, Try.ntmps6
  go_upto_region 1 with fail
  rw [← hW0]; clear hW0
  go_upto_region 3 with (go_at_call 8; refine (alive15_any _).mono ?_; rintro e w' ⟨rfl, rfl⟩)
  go_quiet (fail)
  obtain ⟨W1, hW1⟩ : ∃ W1, W1 = W0.drewN nq := ⟨_, rfl⟩
  replace B : Hid (Below w.heap.size w W1) := Lib.hid (by rw [hW1]; exact B.out.trans ⟨rfl, rfl, rfl, Nat.le_refl _, fun _ _ => rfl⟩)
  rw [← hW1]
  clear c0 c1 e0 e1 hW1 W0
  go_wp2_with first
    | (go_at_call 9; refine (HN0.out _).mono ?_; rintro e w' ⟨rfl, rfl⟩)
    | (go_at_call 12; refine (HF0.out _).mono ?_; rintro e w' ⟨rfl, rfl⟩)
    | (go_at_call 17; refine (HO.out _).mono ?_; rintro e w2 ⟨rfl, hb⟩; have B := Lib.hid (B.out.trans (hb.mono B.out.size)); clear hb)
  go_ret
  exact ⟨rfl, B.out.alloc B.out.size _⟩

set_option maxRecDepth 100000 in
set_option maxHeartbeats 4000000 in
theorem sback_high (t a b n : Int) (w : World) (ht : fits t) (ha : -2147483648 ≤ a ∧ a < 2147483648) (hb : -2147483648 ≤ b ∧ b < 2147483648) (hn : fits n) (ho : okn n = false) (hlo : 0 ≤ n) (hhi : 999999999 < n) :
    Calls Try.prog 6 #[.int .i64 t, .agg #[.int .i32 a, .int .i32 b], .int .i64 n] w fun e w' => e = .returned (.bool true) ∧ Below w.heap.size w w' := by
  have q0 := fun op t W x k => guard_ev op t W x k
  have q1 := fun W k => eql_ev W k
  have q2 := fun W k => neq_ev W k
  have f0 : 0 ≤ b % 4294967296 ∧ b % 4294967296 < 4294967296 := by omega
  have r0 : IntKind.u32.wrap b = b % 4294967296 := IntKind.wrap_u32 b
  have HN0 := Lib.hid (fun w => snano_any (b % 4294967296) w f0.1 f0.2)
  have lb0 := ln_bd f0.1 f0.2
  have HF0 := Lib.hid (fun w => sfraction_any (lnN (b % 4294967296)) w (by unfold fits; omega))
  rw [(lf_yes (ln_ok f0.1 f0.2)).1] at HF0
  have hq := lf_ln f0.1 f0.2
  have hq0 := lf_bd (lnN (b % 4294967296))
  have d1 : decide (b % 4294967296 < lfN (lnN (b % 4294967296))) = false := decide_eq_false (by omega)
  have d2 : decide (4 < b % 4294967296 - lfN (lnN (b % 4294967296))) = false := decide_eq_false (by omega)
  have r1 : IntKind.u32.wrap (b % 4294967296 - lfN (lnN (b % 4294967296))) = b % 4294967296 - lfN (lnN (b % 4294967296)) := by rw [IntKind.wrap_u32]; omega
  clear hq hq0 lb0 f0
  generalize lfN (lnN (b % 4294967296)) = K at *
  generalize hM : lnN (b % 4294967296) = M at *
  clear hM
  have HO := Lib.hid (fun w => sof_any15 t n w ht hn)
  rw [(lf_no ho).1, (lf_no ho).2, ho, if_neg (by simp)] at HO
  have g1 : decide (n < 0) = false := decide_eq_false (by omega)
  have g2 : decide (999999999 < n) = true := decide_eq_true hhi
  obtain ⟨W0, hW0⟩ : ∃ W0, W0 = w.alloc (.cells #[.int .i32 a, .int .i32 b] 67) := ⟨_, rfl⟩
  have B : Hid (Below w.heap.size w W0) := Lib.hid (by rw [hW0]; exact (Below.refl _ _).alloc (Nat.le_refl _) _)
  have hl : W0.heap[w.heap.size]? = some (.cells #[.int .i32 a, .int .i32 b] 67 (0, 0)) := by rw [hW0]; exact heap_alloc_new _ _
  have c0 := bk_cell hl 0; have c1 := bk_cell hl 1
  have e0 : W0.drew.cell? ⟨w.heap.size, 0, none⟩ = some (.int .i32 a) := c0
  have e1 : W0.drew.cell? ⟨w.heap.size, 1, none⟩ = some (.int .i32 b) := c1
  clear hl ht ha hb hn ho hlo hhi
  go_enter Try.func6, Try.ntmps6
  go_upto_region 1 with fail
  rw [← hW0]; clear hW0
  go_upto_region 3 with (go_at_call 8; refine (alive15_any _).mono ?_; rintro e w' ⟨rfl, rfl⟩)
  go_quiet (fail)
  obtain ⟨W1, hW1⟩ : ∃ W1, W1 = W0.drewN nq := ⟨_, rfl⟩
  replace B : Hid (Below w.heap.size w W1) := Lib.hid (by rw [hW1]; exact B.out.trans ⟨rfl, rfl, rfl, Nat.le_refl _, fun _ _ => rfl⟩)
  rw [← hW1]
  clear c0 c1 e0 e1 hW1 W0
  go_wp2_with first
    | (go_at_call 9; refine (HN0.out _).mono ?_; rintro e w' ⟨rfl, rfl⟩)
    | (go_at_call 12; refine (HF0.out _).mono ?_; rintro e w' ⟨rfl, rfl⟩)
    | (go_at_call 17; refine (HO.out _).mono ?_; rintro e w2 ⟨rfl, hb⟩; have B := Lib.hid (B.out.trans (hb.mono B.out.size)); clear hb)
  go_ret
  exact ⟨rfl, B.out.alloc B.out.size _⟩

set_option maxRecDepth 100000 in
set_option maxHeartbeats 4000000 in
theorem sback_far0 (t a b n : Int) (w : World) (ht : fits t) (ha : -2147483648 ≤ a ∧ a < 2147483648) (hb : -2147483648 ≤ b ∧ b < 2147483648) (hn : fits n) (ho : okn n = true) (k0 : 4611686018427387904 < t) :
    Calls Try.prog 6 #[.int .i64 t, .agg #[.int .i32 a, .int .i32 b], .int .i64 n] w fun e w' => e = .returned (.bool true) ∧ Below w.heap.size w w' := by
  have q0 := fun op t W x k => guard_ev op t W x k
  have q1 := fun W k => eql_ev W k
  have q2 := fun W k => neq_ev W k
  have f0 : 0 ≤ b % 4294967296 ∧ b % 4294967296 < 4294967296 := by omega
  have r0 : IntKind.u32.wrap b = b % 4294967296 := IntKind.wrap_u32 b
  have HN0 := Lib.hid (fun w => snano_any (b % 4294967296) w f0.1 f0.2)
  have lb0 := ln_bd f0.1 f0.2
  have HF0 := Lib.hid (fun w => sfraction_any (lnN (b % 4294967296)) w (by unfold fits; omega))
  rw [(lf_yes (ln_ok f0.1 f0.2)).1] at HF0
  have hq := lf_ln f0.1 f0.2
  have hq0 := lf_bd (lnN (b % 4294967296))
  have d1 : decide (b % 4294967296 < lfN (lnN (b % 4294967296))) = false := decide_eq_false (by omega)
  have d2 : decide (4 < b % 4294967296 - lfN (lnN (b % 4294967296))) = false := decide_eq_false (by omega)
  have r1 : IntKind.u32.wrap (b % 4294967296 - lfN (lnN (b % 4294967296))) = b % 4294967296 - lfN (lnN (b % 4294967296)) := by rw [IntKind.wrap_u32]; omega
  clear hq hq0 lb0 f0
  generalize lfN (lnN (b % 4294967296)) = K at *
  generalize hM : lnN (b % 4294967296) = M at *
  clear hM
  have HO := Lib.hid (fun w => sof_any15 t n w ht hn)
  rw [(lf_yes ho).1, ho, if_pos rfl] at HO
  have lb := lf_bd n
  obtain ⟨n0, n1⟩ := okn_yes ho
  have HNn := Lib.hid (fun w => snano_any (lfN n) w lb.1 lb.2)
  rw [ln_lf ho] at HNn
  generalize lfN n = F at *
  generalize t % 4294967296 = S at *
  have g1 : decide (4611686018427387904 < t) = true := decide_eq_true k0
  obtain ⟨W0, hW0⟩ : ∃ W0, W0 = w.alloc (.cells #[.int .i32 a, .int .i32 b] 67) := ⟨_, rfl⟩
  have B : Hid (Below w.heap.size w W0) := Lib.hid (by rw [hW0]; exact (Below.refl _ _).alloc (Nat.le_refl _) _)
  have hl : W0.heap[w.heap.size]? = some (.cells #[.int .i32 a, .int .i32 b] 67 (0, 0)) := by rw [hW0]; exact heap_alloc_new _ _
  have c0 := bk_cell hl 0; have c1 := bk_cell hl 1
  have e0 : W0.drew.cell? ⟨w.heap.size, 0, none⟩ = some (.int .i32 a) := c0
  have e1 : W0.drew.cell? ⟨w.heap.size, 1, none⟩ = some (.int .i32 b) := c1
  clear hl ht ha hb hn ho k0 lb n0 n1
  go_enter Try.func6, Try.ntmps6
  go_upto_region 1 with fail
  rw [← hW0]; clear hW0
  go_upto_region 3 with (go_at_call 8; refine (alive15_any _).mono ?_; rintro e w' ⟨rfl, rfl⟩)
  go_quiet (fail)
  obtain ⟨W1, hW1⟩ : ∃ W1, W1 = W0.drewN nq := ⟨_, rfl⟩
  replace B : Hid (Below w.heap.size w W1) := Lib.hid (by rw [hW1]; exact B.out.trans ⟨rfl, rfl, rfl, Nat.le_refl _, fun _ _ => rfl⟩)
  rw [← hW1]
  clear c0 c1 e0 e1 hW1 W0
  go_upto_region 8 with first
    | (go_at_call 9; refine (HN0.out _).mono ?_; rintro e w' ⟨rfl, rfl⟩)
    | (go_at_call 12; refine (HF0.out _).mono ?_; rintro e w' ⟨rfl, rfl⟩)
    | (go_at_call 17; refine (HO.out _).mono ?_; rintro e w2 ⟨rfl, hb⟩; have B := Lib.hid (B.out.trans (hb.mono B.out.size)); clear hb)
  clear HN0 HF0 r0 r1 d1 d2
  obtain ⟨W2, hW2⟩ : ∃ W2, W2 = w2.alloc (.cells #[.int .u32 S, .int .u32 F] 43) := ⟨_, rfl⟩
  have KL : Hid (W2.heap[w2.heap.size]? = some (.cells #[.int .u32 S, .int .u32 F] 43 (0, 0))) := Lib.hid (by rw [hW2]; exact heap_alloc_new _ _)
  replace B : Hid (Below w.heap.size w W2) := Lib.hid (by rw [hW2]; exact B.out.alloc B.out.size _)
  rw [← hW2]
  generalize w2.heap.size = g at *
  clear hW2 w2
  have c0 := bk_cell KL.out 0; have c1 := bk_cell KL.out 1
  go_wp2_with (go_at_call 9; refine (HNn.out _).mono ?_; rintro e w' ⟨rfl, rfl⟩)
  go_ret
  exact ⟨by simp, B.out⟩

set_option maxRecDepth 100000 in
set_option maxHeartbeats 4000000 in
theorem sback_far1 (t a b n : Int) (w : World) (ht : fits t) (ha : -2147483648 ≤ a ∧ a < 2147483648) (hb : -2147483648 ≤ b ∧ b < 2147483648) (hn : fits n) (ho : okn n = true) (k0 : t ≤ 4611686018427387904) (k1 : t < -4611686018427387904) :
    Calls Try.prog 6 #[.int .i64 t, .agg #[.int .i32 a, .int .i32 b], .int .i64 n] w fun e w' => e = .returned (.bool true) ∧ Below w.heap.size w w' := by
  have q0 := fun op t W x k => guard_ev op t W x k
  have q1 := fun W k => eql_ev W k
  have q2 := fun W k => neq_ev W k
  have f0 : 0 ≤ b % 4294967296 ∧ b % 4294967296 < 4294967296 := by omega
  have r0 : IntKind.u32.wrap b = b % 4294967296 := IntKind.wrap_u32 b
  have HN0 := Lib.hid (fun w => snano_any (b % 4294967296) w f0.1 f0.2)
  have lb0 := ln_bd f0.1 f0.2
  have HF0 := Lib.hid (fun w => sfraction_any (lnN (b % 4294967296)) w (by unfold fits; omega))
  rw [(lf_yes (ln_ok f0.1 f0.2)).1] at HF0
  have hq := lf_ln f0.1 f0.2
  have hq0 := lf_bd (lnN (b % 4294967296))
  have d1 : decide (b % 4294967296 < lfN (lnN (b % 4294967296))) = false := decide_eq_false (by omega)
  have d2 : decide (4 < b % 4294967296 - lfN (lnN (b % 4294967296))) = false := decide_eq_false (by omega)
  have r1 : IntKind.u32.wrap (b % 4294967296 - lfN (lnN (b % 4294967296))) = b % 4294967296 - lfN (lnN (b % 4294967296)) := by rw [IntKind.wrap_u32]; omega
  clear hq hq0 lb0 f0
  generalize lfN (lnN (b % 4294967296)) = K at *
  generalize hM : lnN (b % 4294967296) = M at *
  clear hM
  have HO := Lib.hid (fun w => sof_any15 t n w ht hn)
  rw [(lf_yes ho).1, ho, if_pos rfl] at HO
  have lb := lf_bd n
  obtain ⟨n0, n1⟩ := okn_yes ho
  have HNn := Lib.hid (fun w => snano_any (lfN n) w lb.1 lb.2)
  rw [ln_lf ho] at HNn
  generalize lfN n = F at *
  generalize t % 4294967296 = S at *
  have g1 : decide (4611686018427387904 < t) = false := decide_eq_false (by omega)
  have g2 : decide (t < -4611686018427387904) = true := decide_eq_true k1
  obtain ⟨W0, hW0⟩ : ∃ W0, W0 = w.alloc (.cells #[.int .i32 a, .int .i32 b] 67) := ⟨_, rfl⟩
  have B : Hid (Below w.heap.size w W0) := Lib.hid (by rw [hW0]; exact (Below.refl _ _).alloc (Nat.le_refl _) _)
  have hl : W0.heap[w.heap.size]? = some (.cells #[.int .i32 a, .int .i32 b] 67 (0, 0)) := by rw [hW0]; exact heap_alloc_new _ _
  have c0 := bk_cell hl 0; have c1 := bk_cell hl 1
  have e0 : W0.drew.cell? ⟨w.heap.size, 0, none⟩ = some (.int .i32 a) := c0
  have e1 : W0.drew.cell? ⟨w.heap.size, 1, none⟩ = some (.int .i32 b) := c1
  clear hl ht ha hb hn ho k0 k1 lb n0 n1
  go_enter Try.func6, Try.ntmps6
  go_upto_region 1 with fail
  rw [← hW0]; clear hW0
  go_upto_region 3 with (go_at_call 8; refine (alive15_any _).mono ?_; rintro e w' ⟨rfl, rfl⟩)
  go_quiet (fail)
  obtain ⟨W1, hW1⟩ : ∃ W1, W1 = W0.drewN nq := ⟨_, rfl⟩
  replace B : Hid (Below w.heap.size w W1) := Lib.hid (by rw [hW1]; exact B.out.trans ⟨rfl, rfl, rfl, Nat.le_refl _, fun _ _ => rfl⟩)
  rw [← hW1]
  clear c0 c1 e0 e1 hW1 W0
  go_upto_region 8 with first
    | (go_at_call 9; refine (HN0.out _).mono ?_; rintro e w' ⟨rfl, rfl⟩)
    | (go_at_call 12; refine (HF0.out _).mono ?_; rintro e w' ⟨rfl, rfl⟩)
    | (go_at_call 17; refine (HO.out _).mono ?_; rintro e w2 ⟨rfl, hb⟩; have B := Lib.hid (B.out.trans (hb.mono B.out.size)); clear hb)
  clear HN0 HF0 r0 r1 d1 d2
  obtain ⟨W2, hW2⟩ : ∃ W2, W2 = w2.alloc (.cells #[.int .u32 S, .int .u32 F] 43) := ⟨_, rfl⟩
  have KL : Hid (W2.heap[w2.heap.size]? = some (.cells #[.int .u32 S, .int .u32 F] 43 (0, 0))) := Lib.hid (by rw [hW2]; exact heap_alloc_new _ _)
  replace B : Hid (Below w.heap.size w W2) := Lib.hid (by rw [hW2]; exact B.out.alloc B.out.size _)
  rw [← hW2]
  generalize w2.heap.size = g at *
  clear hW2 w2
  have c0 := bk_cell KL.out 0; have c1 := bk_cell KL.out 1
  go_wp2_with (go_at_call 9; refine (HNn.out _).mono ?_; rintro e w' ⟨rfl, rfl⟩)
  go_ret
  exact ⟨by simp, B.out⟩

set_option maxRecDepth 100000 in
set_option maxHeartbeats 4000000 in
theorem sback_far2 (t a b n : Int) (w : World) (ht : fits t) (ha : -2147483648 ≤ a ∧ a < 2147483648) (hb : -2147483648 ≤ b ∧ b < 2147483648) (hn : fits n) (ho : okn n = true) (k0 : t ≤ 4611686018427387904) (k1 : -4611686018427387904 ≤ t) (k2 : a = -2147483648) :
    Calls Try.prog 6 #[.int .i64 t, .agg #[.int .i32 a, .int .i32 b], .int .i64 n] w fun e w' => e = .returned (.bool true) ∧ Below w.heap.size w w' := by
  have q0 := fun op t W x k => guard_ev op t W x k
  have q1 := fun W k => eql_ev W k
  have q2 := fun W k => neq_ev W k
  have f0 : 0 ≤ b % 4294967296 ∧ b % 4294967296 < 4294967296 := by omega
  have r0 : IntKind.u32.wrap b = b % 4294967296 := IntKind.wrap_u32 b
  have HN0 := Lib.hid (fun w => snano_any (b % 4294967296) w f0.1 f0.2)
  have lb0 := ln_bd f0.1 f0.2
  have HF0 := Lib.hid (fun w => sfraction_any (lnN (b % 4294967296)) w (by unfold fits; omega))
  rw [(lf_yes (ln_ok f0.1 f0.2)).1] at HF0
  have hq := lf_ln f0.1 f0.2
  have hq0 := lf_bd (lnN (b % 4294967296))
  have d1 : decide (b % 4294967296 < lfN (lnN (b % 4294967296))) = false := decide_eq_false (by omega)
  have d2 : decide (4 < b % 4294967296 - lfN (lnN (b % 4294967296))) = false := decide_eq_false (by omega)
  have r1 : IntKind.u32.wrap (b % 4294967296 - lfN (lnN (b % 4294967296))) = b % 4294967296 - lfN (lnN (b % 4294967296)) := by rw [IntKind.wrap_u32]; omega
  clear hq hq0 lb0 f0
  generalize lfN (lnN (b % 4294967296)) = K at *
  generalize hM : lnN (b % 4294967296) = M at *
  clear hM
  have HO := Lib.hid (fun w => sof_any15 t n w ht hn)
  rw [(lf_yes ho).1, ho, if_pos rfl] at HO
  have lb := lf_bd n
  obtain ⟨n0, n1⟩ := okn_yes ho
  have HNn := Lib.hid (fun w => snano_any (lfN n) w lb.1 lb.2)
  rw [ln_lf ho] at HNn
  generalize lfN n = F at *
  generalize t % 4294967296 = S at *
  have g1 : decide (4611686018427387904 < t) = false := decide_eq_false (by omega)
  have g2 : decide (t < -4611686018427387904) = false := decide_eq_false (by omega)
  have g3 : (a == -2147483648) = true := beq_iff_eq.2 k2
  obtain ⟨W0, hW0⟩ : ∃ W0, W0 = w.alloc (.cells #[.int .i32 a, .int .i32 b] 67) := ⟨_, rfl⟩
  have B : Hid (Below w.heap.size w W0) := Lib.hid (by rw [hW0]; exact (Below.refl _ _).alloc (Nat.le_refl _) _)
  have hl : W0.heap[w.heap.size]? = some (.cells #[.int .i32 a, .int .i32 b] 67 (0, 0)) := by rw [hW0]; exact heap_alloc_new _ _
  have c0 := bk_cell hl 0; have c1 := bk_cell hl 1
  have e0 : W0.drew.cell? ⟨w.heap.size, 0, none⟩ = some (.int .i32 a) := c0
  have e1 : W0.drew.cell? ⟨w.heap.size, 1, none⟩ = some (.int .i32 b) := c1
  clear hl ht ha hb hn ho k0 k1 k2 lb n0 n1
  go_enter Try.func6, Try.ntmps6
  go_upto_region 1 with fail
  rw [← hW0]; clear hW0
  go_upto_region 3 with (go_at_call 8; refine (alive15_any _).mono ?_; rintro e w' ⟨rfl, rfl⟩)
  go_quiet (fail)
  obtain ⟨W1, hW1⟩ : ∃ W1, W1 = W0.drewN nq := ⟨_, rfl⟩
  replace B : Hid (Below w.heap.size w W1) := Lib.hid (by rw [hW1]; exact B.out.trans ⟨rfl, rfl, rfl, Nat.le_refl _, fun _ _ => rfl⟩)
  rw [← hW1]
  clear c0 c1 e0 e1 hW1 W0
  go_upto_region 8 with first
    | (go_at_call 9; refine (HN0.out _).mono ?_; rintro e w' ⟨rfl, rfl⟩)
    | (go_at_call 12; refine (HF0.out _).mono ?_; rintro e w' ⟨rfl, rfl⟩)
    | (go_at_call 17; refine (HO.out _).mono ?_; rintro e w2 ⟨rfl, hb⟩; have B := Lib.hid (B.out.trans (hb.mono B.out.size)); clear hb)
  clear HN0 HF0 r0 r1 d1 d2
  obtain ⟨W2, hW2⟩ : ∃ W2, W2 = w2.alloc (.cells #[.int .u32 S, .int .u32 F] 43) := ⟨_, rfl⟩
  have KL : Hid (W2.heap[w2.heap.size]? = some (.cells #[.int .u32 S, .int .u32 F] 43 (0, 0))) := Lib.hid (by rw [hW2]; exact heap_alloc_new _ _)
  replace B : Hid (Below w.heap.size w W2) := Lib.hid (by rw [hW2]; exact B.out.alloc B.out.size _)
  rw [← hW2]
  generalize w2.heap.size = g at *
  clear hW2 w2
  have c0 := bk_cell KL.out 0; have c1 := bk_cell KL.out 1
  go_wp2_with (go_at_call 9; refine (HNn.out _).mono ?_; rintro e w' ⟨rfl, rfl⟩)
  go_ret
  exact ⟨by simp, B.out⟩

set_option maxRecDepth 100000 in
set_option maxHeartbeats 4000000 in
theorem sback_main (t a b n : Int) (w : World) (ht : fits t) (ha : -2147483648 ≤ a ∧ a < 2147483648) (hb : -2147483648 ≤ b ∧ b < 2147483648) (hn : fits n) (ho : okn n = true) (k0 : t ≤ 4611686018427387904) (k1 : -4611686018427387904 ≤ t) (k2 : a ≠ -2147483648) :
    Calls Try.prog 6 #[.int .i64 t, .agg #[.int .i32 a, .int .i32 b], .int .i64 n] w fun e w' => e = .returned (.bool true) ∧ Below w.heap.size w w' := by
  have q0 := fun op t W x k => guard_ev op t W x k
  have q1 := fun W k => eql_ev W k
  have q2 := fun W k => neq_ev W k
  have f0 : 0 ≤ b % 4294967296 ∧ b % 4294967296 < 4294967296 := by omega
  have r0 : IntKind.u32.wrap b = b % 4294967296 := IntKind.wrap_u32 b
  have HN0 := Lib.hid (fun w => snano_any (b % 4294967296) w f0.1 f0.2)
  have lb0 := ln_bd f0.1 f0.2
  have HF0 := Lib.hid (fun w => sfraction_any (lnN (b % 4294967296)) w (by unfold fits; omega))
  rw [(lf_yes (ln_ok f0.1 f0.2)).1] at HF0
  have hq := lf_ln f0.1 f0.2
  have hq0 := lf_bd (lnN (b % 4294967296))
  have d1 : decide (b % 4294967296 < lfN (lnN (b % 4294967296))) = false := decide_eq_false (by omega)
  have d2 : decide (4 < b % 4294967296 - lfN (lnN (b % 4294967296))) = false := decide_eq_false (by omega)
  have r1 : IntKind.u32.wrap (b % 4294967296 - lfN (lnN (b % 4294967296))) = b % 4294967296 - lfN (lnN (b % 4294967296)) := by rw [IntKind.wrap_u32]; omega
  clear hq hq0 lb0 f0
  generalize lfN (lnN (b % 4294967296)) = K at *
  generalize hM : lnN (b % 4294967296) = M at *
  clear hM
  have HO := Lib.hid (fun w => sof_any15 t n w ht hn)
  rw [(lf_yes ho).1, ho, if_pos rfl] at HO
  have lb := lf_bd n
  obtain ⟨n0, n1⟩ := okn_yes ho
  have HNn := Lib.hid (fun w => snano_any (lfN n) w lb.1 lb.2)
  rw [ln_lf ho] at HNn
  have hun : un (t % 4294967296) (t + a) 32 = t := un_fo (t := t) (p := t + a) (n := 32) (by decide) (by
    have e32 : hf 32 = 2147483648 := rfl
    unfold nr; rw [e32]; simp; omega)
  have HT := Lib.hid (fun w => stime_any (t % 4294967296) (lfN n) (t + a) w (by omega) (by omega) lb.1 lb.2 (by unfold fits; omega))
  rw [hun, sm_fit ht, bad_fit ht, if_pos ht, ln_lf ho] at HT
  have m1 : fits (t + 2208988800) := by unfold fits; omega
  have HA := Lib.hid (fun w => sfromposix_any t w ht)
  rw [sm_fit m1, bad_fit m1] at HA
  have HTp := Lib.hid (fun w => stoposix_any (t + 2208988800) w m1)
  rw [show t + 2208988800 - 2208988800 = t by omega, sm_fit ht, bad_fit ht] at HTp
  obtain ⟨N, hN⟩ : ∃ N : Nat, (N : Int) = t % 4294967296 * 4294967296 + lfN n := ⟨(t % 4294967296 * 4294967296 + lfN n).toNat, by omega⟩
  have hN1 : ((N / 4294967296 : Nat) : Int) = t % 4294967296 := by omega
  have hN2 : ((N % 4294967296 : Nat) : Int) = lfN n := by omega
  have hN3 : N < 18446744073709551616 := by omega
  have HBy := Lib.hid (fun w => sbytes32_any N w hN3)
  have HPa := Lib.hid (fun (A : Option Addr) (c : Nat) W (h : Rb W A (be 8 N)) (hA : A = none → c = 0) (hc : (be 8 N).length ≤ c) => sparse32_yes A (be 8 N) c W h hA hc (be_len 8 N))
  rw [ebv_be_fit (by omega), hN1, hN2] at HPa
  rw [hN1, hN2] at HBy
  have HL8 := Lib.hid (be_len 8 N)
  generalize be 8 N = L8 at *
  have k3 : IntKind.i64.wrap a = a := IntWalk.i64_in _ (by omega)
  have k4 : IntKind.i64.wrap (t + a) = t + a := IntWalk.i64_in _ (by omega)
  generalize lfN n = F at *
  generalize t % 4294967296 = S at *
  have g1 : decide (4611686018427387904 < t) = false := decide_eq_false (by omega)
  have g2 : decide (t < -4611686018427387904) = false := decide_eq_false (by omega)
  have g3 : (a == -2147483648) = false := beq_eq_false_iff_ne.2 k2
  obtain ⟨W0, hW0⟩ : ∃ W0, W0 = w.alloc (.cells #[.int .i32 a, .int .i32 b] 67) := ⟨_, rfl⟩
  have B : Hid (Below w.heap.size w W0) := Lib.hid (by rw [hW0]; exact (Below.refl _ _).alloc (Nat.le_refl _) _)
  have hl : W0.heap[w.heap.size]? = some (.cells #[.int .i32 a, .int .i32 b] 67 (0, 0)) := by rw [hW0]; exact heap_alloc_new _ _
  have c0 := bk_cell hl 0; have c1 := bk_cell hl 1
  have e0 : W0.drew.cell? ⟨w.heap.size, 0, none⟩ = some (.int .i32 a) := c0
  have e1 : W0.drew.cell? ⟨w.heap.size, 1, none⟩ = some (.int .i32 b) := c1
  clear hl ht ha hb hn ho hun m1 hN hN1 hN2 hN3 k0 k1 k2 lb n0 n1
  go_enter Try.func6, Try.ntmps6
  go_upto_region 1 with fail
  rw [← hW0]; clear hW0
  go_upto_region 3 with (go_at_call 8; refine (alive15_any _).mono ?_; rintro e w' ⟨rfl, rfl⟩)
  go_quiet (fail)
  obtain ⟨W1, hW1⟩ : ∃ W1, W1 = W0.drewN nq := ⟨_, rfl⟩
  replace B : Hid (Below w.heap.size w W1) := Lib.hid (by rw [hW1]; exact B.out.trans ⟨rfl, rfl, rfl, Nat.le_refl _, fun _ _ => rfl⟩)
  rw [← hW1]
  clear c0 c1 e0 e1 hW1 W0
  go_upto_region 8 with first
    | (go_at_call 9; refine (HN0.out _).mono ?_; rintro e w' ⟨rfl, rfl⟩)
    | (go_at_call 12; refine (HF0.out _).mono ?_; rintro e w' ⟨rfl, rfl⟩)
    | (go_at_call 17; refine (HO.out _).mono ?_; rintro e w2 ⟨rfl, hb⟩; have B := Lib.hid (B.out.trans (hb.mono B.out.size)); clear hb)
  clear HN0 HF0 r0 r1 d1 d2
  obtain ⟨W2, hW2⟩ : ∃ W2, W2 = w2.alloc (.cells #[.int .u32 S, .int .u32 F] 43) := ⟨_, rfl⟩
  have KL : Hid (W2.heap[w2.heap.size]? = some (.cells #[.int .u32 S, .int .u32 F] 43 (0, 0))) := Lib.hid (by rw [hW2]; exact heap_alloc_new _ _)
  replace B : Hid (Below w.heap.size w W2) := Lib.hid (by rw [hW2]; exact B.out.alloc B.out.size _)
  rw [← hW2]
  generalize w2.heap.size = g at *
  clear hW2 w2
  have c0 := bk_cell KL.out 0; have c1 := bk_cell KL.out 1
  go_upto_region 14 with first
    | (go_at_call 19; refine (HT.out _).mono ?_; rintro e w3 ⟨rfl, hb⟩; have KL := Lib.hid ((hb.block _ (bk_lt KL.out)).trans KL.out); have c0 := bk_cell KL.out 0; have c1 := bk_cell KL.out 1; have B := Lib.hid (B.out.trans (hb.mono B.out.size)); clear hb)
    | (go_at_call 27; refine (HBy.out _).mono ?_; rintro e w4 ⟨g1, hg1, rfl, hk, hb⟩; have R := Lib.hid hk.whole; have KL := Lib.hid ((hb.block _ (bk_lt KL.out)).trans KL.out); have c0 := bk_cell KL.out 0; have c1 := bk_cell KL.out 1; have B := Lib.hid (B.out.trans (hb.mono B.out.size)); clear hb hk hg1)
    | (go_at_call 32; refine (HPa.out (some ⟨g1, 0, none⟩) L8.length _ R.out (fun h => by cases h) (Nat.le_refl _)).mono ?_; rintro e w5 ⟨rfl, hb⟩; have KL := Lib.hid ((hb.block _ (bk_lt KL.out)).trans KL.out); have c0 := bk_cell KL.out 0; have c1 := bk_cell KL.out 1; have B := Lib.hid (B.out.trans (hb.mono B.out.size)); clear hb)
  obtain ⟨W5, hW5⟩ : ∃ W5, W5 = w5.alloc (.cells #[.int .u32 S, .int .u32 F] 43) := ⟨_, rfl⟩
  have KP : Hid (W5.heap[w5.heap.size]? = some (.cells #[.int .u32 S, .int .u32 F] 43 (0, 0))) := Lib.hid (by rw [hW5]; exact heap_alloc_new _ _)
  replace KL : Hid (W5.heap[g]? = some (.cells #[.int .u32 S, .int .u32 F] 43 (0, 0))) := Lib.hid (by rw [hW5]; exact (((Below.refl _ w5).alloc (Nat.le_refl _) _).block _ (bk_lt KL.out)).trans KL.out)
  replace B : Hid (Below w.heap.size w W5) := Lib.hid (by rw [hW5]; exact B.out.alloc B.out.size _)
  rw [← hW5]
  generalize w5.heap.size = gp at *
  clear hW5 c0 c1
  have p0 := bk_cell KL.out 0; have p1 := bk_cell KL.out 1; have p2 := bk_cell KP.out 0; have p3 := bk_cell KP.out 1
  go_wp2_with first
    | (go_at_call 22; refine (HA.out _).mono ?_; rintro e w' ⟨rfl, rfl⟩)
    | (go_at_call 23; refine (HTp.out _).mono ?_; rintro e w' ⟨rfl, rfl⟩)
  go_ret
  exact ⟨by simp, B.out⟩

theorem sback_walk (t a b n : Int) (w : World) (ht : fits t) (ha : -2147483648 ≤ a ∧ a < 2147483648) (hb : -2147483648 ≤ b ∧ b < 2147483648) (hn : fits n) :
    Calls Try.prog 6 #[.int .i64 t, .agg #[.int .i32 a, .int .i32 b], .int .i64 n] w fun e w' => e = .returned (.bool true) ∧ Below w.heap.size w w' := by
  cases ho : okn n with
  | false =>
    rcases okn_no ho with h | ⟨h, g⟩
    · exact sback_low t a b n w ht ha hb hn ho h
    · exact sback_high t a b n w ht ha hb hn ho h g
  | true =>
    by_cases k0 : 4611686018427387904 < t
    · exact sback_far0 t a b n w ht ha hb hn ho k0
    by_cases k1 : t < -4611686018427387904
    · exact sback_far1 t a b n w ht ha hb hn ho (by omega) k1
    by_cases k2 : a = -2147483648
    · exact sback_far2 t a b n w ht ha hb hn ho (by omega) (by omega) k2
    · exact sback_main t a b n w ht ha hb hn ho (by omega) (by omega) k2
end Go.Proofs.Ytbffpallhofonaa
