/- WholeEras. -/
import Derived.Test.YtbffpallhofonaaStpA
import Derived.Test.YtbffpallhofonaaGpsA
namespace Go.Proofs.Ytbffpallhofonaa
open Go.RowKit
set_option linter.unusedVariables false
set_option linter.unusedSimpArgs false

/-! plain: what is unfolded by any pivot -/
theorem un_fold (t p : Int) (n : Nat) (h : 1 ≤ n) : ∃ k, un (fo t n) p n - t = pw n * k ∧ ((un (fo t n) p n = t) ↔ (p - hf n ≤ t ∧ t < p + hf n)) := by
  obtain ⟨q, hq⟩ := un_mod (fo t n) p n
  have e := Int.mul_ediv_add_emod t (pw n)
  have e2 : fo t n = t % pw n := rfl
  refine ⟨- q - t / pw n, ?_, ?_⟩
  · rw [hq, e2, Int.mul_sub, Int.mul_neg]; omega
  · constructor
    · intro h2
      have := un_bd (fo t n) p h
      rw [h2] at this; exact this
    · intro h2
      exact un_fo h (by unfold nr; simp; exact h2)
theorem tmod_mul (m k : Int) : (m * k).tmod m = 0 := by
  rw [Int.mul_tmod_right]

theorem eras_fixed : (4294967296 + 5 : Int) % 4294967296 = 5 ∧ lfE 0 = 0 ∧ lfN 0 = 0 ∧ okn 0 = true ∧ un 5 4294967296 32 = 4294967301 ∧ lnN 0 = 0 ∧ fo 2048 10 = 0 := by decide +kernel
set_option maxHeartbeats 1600000 in
theorem erasstand_any (w : World) : Calls Try.prog 35 #[] w fun e w' => e = .returned (.bool true) ∧ Below w.heap.size w w' := by
  have q0 := fun op t W x k => guard_ev op t W x k
  have q1 := fun W k => eql_ev W k
  have q2 := fun W k => neq_ev W k
  obtain ⟨e1, e2, e3, e4, e5, e6, e7⟩ := eras_fixed
  have HO := Lib.hid (fun w => sof_any15 4294967301 0 w (by decide) (by decide))
  rw [e2, e3, e4, if_pos rfl, show (4294967301 : Int) % 4294967296 = 5 by decide] at HO
  have HT := Lib.hid (fun w => stime_any 5 0 4294967296 w (by decide) (by decide) (by decide) (by decide) (by decide))
  rw [e5, e6, sm_fit (by decide), bad_fit (by decide), if_pos (by decide)] at HT
  have HG := Lib.hid (fun w => gshort_any 2048 w (by decide))
  rw [e7] at HG
  clear e1 e2 e3 e4 e5 e6 e7
  go_enter Try.func35, Try.ntmps35
  go_wp2_with first
    | (go_at_call 17; refine (HO.out _).mono ?_; rintro e w1 ⟨rfl, hb⟩; have B := Lib.hid hb; clear hb)
    | (go_at_call 19; refine (HT.out _).mono ?_; rintro e w2 ⟨rfl, hb⟩; have B := Lib.hid (bel_boxed B.out hb); clear hb)
    | (go_at_call 37; refine (HG.out _).mono ?_; rintro e w' ⟨rfl, rfl⟩)
  go_ret
  exact ⟨rfl, B.out⟩
set_option maxHeartbeats 1600000 in
theorem eras_far0 (t p n : Int) (w : World) (c0 : 1152921504606846976 < t) :
    Calls Try.prog 7 #[.int .i64 t, .int .i64 p, .int .i64 n] w fun e w' => e = .returned (.bool true) ∧ Below w.heap.size w w' := by
  have q0 := fun op t W x k => guard_ev op t W x k
  have q1 := fun W k => eql_ev W k
  have q2 := fun W k => neq_ev W k
  have d0 : decide (1152921504606846976 < t) = true := decide_eq_true c0
  clear c0
  go_enter Try.func7, Try.ntmps7
  go_wp2_with (go_at_call 35; refine (erasstand_any _).mono ?_; rintro e w1 ⟨rfl, hb⟩; have B := Lib.hid hb; clear hb)
  go_ret
  exact ⟨rfl, B.out⟩
set_option maxHeartbeats 1600000 in
theorem eras_far1 (t p n : Int) (w : World) (c0 : ¬ 1152921504606846976 < t) (c1 : t < -1152921504606846976) :
    Calls Try.prog 7 #[.int .i64 t, .int .i64 p, .int .i64 n] w fun e w' => e = .returned (.bool true) ∧ Below w.heap.size w w' := by
  have q0 := fun op t W x k => guard_ev op t W x k
  have q1 := fun W k => eql_ev W k
  have q2 := fun W k => neq_ev W k
  have d0 : decide (1152921504606846976 < t) = false := decide_eq_false c0
  have d1 : decide (t < -1152921504606846976) = true := decide_eq_true c1
  clear c0 c1
  go_enter Try.func7, Try.ntmps7
  go_wp2_with (go_at_call 35; refine (erasstand_any _).mono ?_; rintro e w1 ⟨rfl, hb⟩; have B := Lib.hid hb; clear hb)
  go_ret
  exact ⟨rfl, B.out⟩
set_option maxHeartbeats 1600000 in
theorem eras_far2 (t p n : Int) (w : World) (c0 : ¬ 1152921504606846976 < t) (c1 : ¬ t < -1152921504606846976) (c2 : 1152921504606846976 < p) :
    Calls Try.prog 7 #[.int .i64 t, .int .i64 p, .int .i64 n] w fun e w' => e = .returned (.bool true) ∧ Below w.heap.size w w' := by
  have q0 := fun op t W x k => guard_ev op t W x k
  have q1 := fun W k => eql_ev W k
  have q2 := fun W k => neq_ev W k
  have d0 : decide (1152921504606846976 < t) = false := decide_eq_false c0
  have d1 : decide (t < -1152921504606846976) = false := decide_eq_false c1
  have d2 : decide (1152921504606846976 < p) = true := decide_eq_true c2
  clear c0 c1 c2
  go_enter Try.func7, Try.ntmps7
  go_wp2_with (go_at_call 35; refine (erasstand_any _).mono ?_; rintro e w1 ⟨rfl, hb⟩; have B := Lib.hid hb; clear hb)
  go_ret
  exact ⟨rfl, B.out⟩
set_option maxHeartbeats 1600000 in
theorem eras_far3 (t p n : Int) (w : World) (c0 : ¬ 1152921504606846976 < t) (c1 : ¬ t < -1152921504606846976) (c2 : ¬ 1152921504606846976 < p) (c3 : p < -1152921504606846976) :
    Calls Try.prog 7 #[.int .i64 t, .int .i64 p, .int .i64 n] w fun e w' => e = .returned (.bool true) ∧ Below w.heap.size w w' := by
  have q0 := fun op t W x k => guard_ev op t W x k
  have q1 := fun W k => eql_ev W k
  have q2 := fun W k => neq_ev W k
  have d0 : decide (1152921504606846976 < t) = false := decide_eq_false c0
  have d1 : decide (t < -1152921504606846976) = false := decide_eq_false c1
  have d2 : decide (1152921504606846976 < p) = false := decide_eq_false c2
  have d3 : decide (p < -1152921504606846976) = true := decide_eq_true c3
  clear c0 c1 c2 c3
  go_enter Try.func7, Try.ntmps7
  go_wp2_with (go_at_call 35; refine (erasstand_any _).mono ?_; rintro e w1 ⟨rfl, hb⟩; have B := Lib.hid hb; clear hb)
  go_ret
  exact ⟨rfl, B.out⟩
set_option maxHeartbeats 1600000 in
theorem eras_low (t p n : Int) (w : World) (ht1 : -1152921504606846976 ≤ t) (ht2 : t ≤ 1152921504606846976) (hp1 : -1152921504606846976 ≤ p) (hp2 : p ≤ 1152921504606846976) (hn : fits n) (ho : okn n = false) (hlo : n < 0) :
    Calls Try.prog 7 #[.int .i64 t, .int .i64 p, .int .i64 n] w fun e w' => e = .returned (.bool true) ∧ Below w.heap.size w w' := by
  have q0 := fun op t W x k => guard_ev op t W x k
  have q1 := fun W k => eql_ev W k
  have q2 := fun W k => neq_ev W k
  have d0 : decide (1152921504606846976 < t) = false := decide_eq_false (by omega)
  have d1 : decide (t < -1152921504606846976) = false := decide_eq_false (by omega)
  have d2 : decide (1152921504606846976 < p) = false := decide_eq_false (by omega)
  have d3 : decide (p < -1152921504606846976) = false := decide_eq_false (by omega)
  have g0 : decide (n < 0) = true := decide_eq_true (by omega)
  have HO := Lib.hid (fun w => sof_any15 t n w (by unfold fits; omega) hn)
  rw [(lf_no ho).1, (lf_no ho).2, ho, if_neg (by simp)] at HO
  clear ht1 ht2 hp1 hp2 hn ho hlo
  go_enter Try.func7, Try.ntmps7
  go_wp2_with first
    | (go_at_call 35; refine (erasstand_any _).mono ?_; rintro e w1 ⟨rfl, hb⟩; have B := Lib.hid hb; clear hb)
    | (go_at_call 17; refine (HO.out _).mono ?_; rintro e w2 ⟨rfl, hb⟩; have B := Lib.hid (B.out.trans (hb.mono B.out.size)); clear hb)
  go_ret
  exact ⟨rfl, B.out.alloc B.out.size _⟩
set_option maxHeartbeats 1600000 in
theorem eras_high (t p n : Int) (w : World) (ht1 : -1152921504606846976 ≤ t) (ht2 : t ≤ 1152921504606846976) (hp1 : -1152921504606846976 ≤ p) (hp2 : p ≤ 1152921504606846976) (hn : fits n) (ho : okn n = false) (hlo : 0 ≤ n) (hhi : 999999999 < n) :
    Calls Try.prog 7 #[.int .i64 t, .int .i64 p, .int .i64 n] w fun e w' => e = .returned (.bool true) ∧ Below w.heap.size w w' := by
  have q0 := fun op t W x k => guard_ev op t W x k
  have q1 := fun W k => eql_ev W k
  have q2 := fun W k => neq_ev W k
  have d0 : decide (1152921504606846976 < t) = false := decide_eq_false (by omega)
  have d1 : decide (t < -1152921504606846976) = false := decide_eq_false (by omega)
  have d2 : decide (1152921504606846976 < p) = false := decide_eq_false (by omega)
  have d3 : decide (p < -1152921504606846976) = false := decide_eq_false (by omega)
  have g0 : decide (n < 0) = false := decide_eq_false (by omega)
  have g1 : decide (999999999 < n) = true := decide_eq_true (by omega)
  have HO := Lib.hid (fun w => sof_any15 t n w (by unfold fits; omega) hn)
  rw [(lf_no ho).1, (lf_no ho).2, ho, if_neg (by simp)] at HO
  clear ht1 ht2 hp1 hp2 hn ho hlo hhi
  go_enter Try.func7, Try.ntmps7
  go_wp2_with first
    | (go_at_call 35; refine (erasstand_any _).mono ?_; rintro e w1 ⟨rfl, hb⟩; have B := Lib.hid hb; clear hb)
    | (go_at_call 17; refine (HO.out _).mono ?_; rintro e w2 ⟨rfl, hb⟩; have B := Lib.hid (B.out.trans (hb.mono B.out.size)); clear hb)
  go_ret
  exact ⟨rfl, B.out.alloc B.out.size _⟩
set_option maxHeartbeats 1600000 in
theorem eras_near (t p n : Int) (w : World) (ht1 : -1152921504606846976 ≤ t) (ht2 : t ≤ 1152921504606846976) (hp1 : -1152921504606846976 ≤ p) (hp2 : p ≤ 1152921504606846976) (ho : okn n = true) (k1 : -512 ≤ t - p) (k2 : t - p < 512) :
    Calls Try.prog 7 #[.int .i64 t, .int .i64 p, .int .i64 n] w fun e w' => e = .returned (.bool true) ∧ Below w.heap.size w w' := by
  have q0 := fun op t W x k => guard_ev op t W x k
  have q1 := fun W k => eql_ev W k
  have q2 := fun W k => neq_ev W k
  have d0 : decide (1152921504606846976 < t) = false := decide_eq_false (by omega)
  have d1 : decide (t < -1152921504606846976) = false := decide_eq_false (by omega)
  have d2 : decide (1152921504606846976 < p) = false := decide_eq_false (by omega)
  have d3 : decide (p < -1152921504606846976) = false := decide_eq_false (by omega)
  obtain ⟨n0, n1⟩ := okn_yes ho
  have HO := Lib.hid (fun w => sof_any15 t n w (by unfold fits; omega) (by unfold fits; omega))
  rw [(lf_yes ho).1, ho, if_pos rfl] at HO
  have lb := lf_bd n
  obtain ⟨c32, x32, y32⟩ := un_fold t p 32 (by decide)
  obtain ⟨c10, x10, y10⟩ := un_fold t p 10 (by decide)
  have u32 := un_bd (fo t 32) p (n := 32) (by decide)
  have u10 := un_bd (fo t 10) p (n := 10) (by decide)
  have b10 := fo_bd t 10
  have e32 : hf 32 = 2147483648 := rfl
  rw [e32] at y32 u32
  rw [hf_10] at y10 u10
  rw [pw_32] at x32
  rw [pw_10] at x10 b10
  have HT : Hid (∀ w, Calls Try.prog 19 #[.agg #[.int .u32 (t % 4294967296), .int .u32 (lfN n)], .int .i64 p] w fun e w' => e = .returned (.tuple #[.int .i64 (un (fo t 32) p 32), .int .i64 n, ev 0]) ∧ Below w.heap.size w w') := Lib.hid (fun w => by
    have := stime_any (t % 4294967296) (lfN n) p w (by omega) (by omega) lb.1 lb.2 (by unfold fits; omega)
    have hfit : fits (un (fo t 32) p 32) := by unfold fits; omega
    rw [show t % 4294967296 = fo t 32 from rfl, sm_fit hfit, bad_fit hfit, if_pos hfit, ln_lf ho] at this
    exact this)
  have HG := Lib.hid (fun w => gshort_any t w (by unfold fits; omega))
  have HL : Hid (∀ w, Calls Try.prog 36 #[.int .i64 (fo t 10), .int .i64 p] w fun e w' => e = .returned (.tuple #[.int .i64 (un (fo t 10) p 10), ev 0]) ∧ w = w') := Lib.hid (fun w => by
    have := glong_any (fo t 10) p w (by unfold fits; omega) (by unfold fits; omega)
    have hfit : fits (un (fo t 10) p 10) := by unfold fits; omega
    have hr : ¬ (fo t 10 < 0 ∨ 1023 < fo t 10) := by omega
    unfold loN loE at this
    rw [if_neg hr, if_neg hr, sm_fit hfit, bad_fit hfit] at this
    exact this)
  generalize fo t 10 = F10 at *
  generalize un F10 p 10 = V at *
  generalize un (fo t 32) p 32 = U at *
  generalize lfN n = F at *
  generalize hS : t % 4294967296 = S at *
  clear hS
  have r1 : IntKind.i64.wrap (U - t) = U - t := IntWalk.i64_in _ (by omega)
  have r2 : (U - t).tmod 4294967296 = 0 := by rw [x32]; exact tmod_mul _ _
  have r3 : IntKind.i64.wrap (t - p) = t - p := IntWalk.i64_in _ (by omega)
  have r4 : IntKind.i64.wrap (V - t) = V - t := IntWalk.i64_in _ (by omega)
  have r5 : (V - t).tmod 1024 = 0 := by rw [x10]; exact tmod_mul _ _
  have g1 : (U == t) = true := beq_iff_eq.2 (y32.2 (by omega))
  have g2 : decide (-2147483648 ≤ t - p) = true := decide_eq_true (by omega)
  have g3 : decide (t - p < 2147483648) = true := decide_eq_true (by omega)
  have g4 : (V == t) = true := beq_iff_eq.2 (y10.2 (by omega))
  have g5 : decide (-512 ≤ t - p) = true := decide_eq_true (by omega)
  have g6 : decide (t - p < 512) = true := decide_eq_true (by omega)
  clear x32 y32 x10 y10 u32 u10 b10 e32 lb ht1 ht2 hp1 hp2 n0 n1 ho k1 k2
  go_enter Try.func7, Try.ntmps7
  go_wp2_with first
    | (go_at_call 35; refine (erasstand_any _).mono ?_; rintro e w1 ⟨rfl, hb⟩; have B := Lib.hid hb; clear hb)
    | (go_at_call 17; refine (HO.out _).mono ?_; rintro e w2 ⟨rfl, hb⟩; have B := Lib.hid (B.out.trans (hb.mono B.out.size)); clear hb)
    | (go_at_call 19; refine (HT.out _).mono ?_; rintro e w3 ⟨rfl, hb⟩; have B := Lib.hid (bel_boxed B.out hb); clear hb)
    | (go_at_call 37; refine (HG.out _).mono ?_; rintro e w' ⟨rfl, rfl⟩)
    | (go_at_call 36; refine (HL.out _).mono ?_; rintro e w' ⟨rfl, rfl⟩)
  go_ret
  exact ⟨by simp, B.out⟩
set_option maxHeartbeats 1600000 in
theorem eras_near_low (t p n : Int) (w : World) (ht1 : -1152921504606846976 ≤ t) (ht2 : t ≤ 1152921504606846976) (hp1 : -1152921504606846976 ≤ p) (hp2 : p ≤ 1152921504606846976) (ho : okn n = true) (k1 : -2147483648 ≤ t - p) (k2 : t - p < -512) :
    Calls Try.prog 7 #[.int .i64 t, .int .i64 p, .int .i64 n] w fun e w' => e = .returned (.bool true) ∧ Below w.heap.size w w' := by
  have q0 := fun op t W x k => guard_ev op t W x k
  have q1 := fun W k => eql_ev W k
  have q2 := fun W k => neq_ev W k
  have d0 : decide (1152921504606846976 < t) = false := decide_eq_false (by omega)
  have d1 : decide (t < -1152921504606846976) = false := decide_eq_false (by omega)
  have d2 : decide (1152921504606846976 < p) = false := decide_eq_false (by omega)
  have d3 : decide (p < -1152921504606846976) = false := decide_eq_false (by omega)
  obtain ⟨n0, n1⟩ := okn_yes ho
  have HO := Lib.hid (fun w => sof_any15 t n w (by unfold fits; omega) (by unfold fits; omega))
  rw [(lf_yes ho).1, ho, if_pos rfl] at HO
  have lb := lf_bd n
  obtain ⟨c32, x32, y32⟩ := un_fold t p 32 (by decide)
  obtain ⟨c10, x10, y10⟩ := un_fold t p 10 (by decide)
  have u32 := un_bd (fo t 32) p (n := 32) (by decide)
  have u10 := un_bd (fo t 10) p (n := 10) (by decide)
  have b10 := fo_bd t 10
  have e32 : hf 32 = 2147483648 := rfl
  rw [e32] at y32 u32
  rw [hf_10] at y10 u10
  rw [pw_32] at x32
  rw [pw_10] at x10 b10
  have HT : Hid (∀ w, Calls Try.prog 19 #[.agg #[.int .u32 (t % 4294967296), .int .u32 (lfN n)], .int .i64 p] w fun e w' => e = .returned (.tuple #[.int .i64 (un (fo t 32) p 32), .int .i64 n, ev 0]) ∧ Below w.heap.size w w') := Lib.hid (fun w => by
    have := stime_any (t % 4294967296) (lfN n) p w (by omega) (by omega) lb.1 lb.2 (by unfold fits; omega)
    have hfit : fits (un (fo t 32) p 32) := by unfold fits; omega
    rw [show t % 4294967296 = fo t 32 from rfl, sm_fit hfit, bad_fit hfit, if_pos hfit, ln_lf ho] at this
    exact this)
  have HG := Lib.hid (fun w => gshort_any t w (by unfold fits; omega))
  have HL : Hid (∀ w, Calls Try.prog 36 #[.int .i64 (fo t 10), .int .i64 p] w fun e w' => e = .returned (.tuple #[.int .i64 (un (fo t 10) p 10), ev 0]) ∧ w = w') := Lib.hid (fun w => by
    have := glong_any (fo t 10) p w (by unfold fits; omega) (by unfold fits; omega)
    have hfit : fits (un (fo t 10) p 10) := by unfold fits; omega
    have hr : ¬ (fo t 10 < 0 ∨ 1023 < fo t 10) := by omega
    unfold loN loE at this
    rw [if_neg hr, if_neg hr, sm_fit hfit, bad_fit hfit] at this
    exact this)
  generalize fo t 10 = F10 at *
  generalize un F10 p 10 = V at *
  generalize un (fo t 32) p 32 = U at *
  generalize lfN n = F at *
  generalize hS : t % 4294967296 = S at *
  clear hS
  have r1 : IntKind.i64.wrap (U - t) = U - t := IntWalk.i64_in _ (by omega)
  have r2 : (U - t).tmod 4294967296 = 0 := by rw [x32]; exact tmod_mul _ _
  have r3 : IntKind.i64.wrap (t - p) = t - p := IntWalk.i64_in _ (by omega)
  have r4 : IntKind.i64.wrap (V - t) = V - t := IntWalk.i64_in _ (by omega)
  have r5 : (V - t).tmod 1024 = 0 := by rw [x10]; exact tmod_mul _ _
  have g1 : (U == t) = true := beq_iff_eq.2 (y32.2 (by omega))
  have g2 : decide (-2147483648 ≤ t - p) = true := decide_eq_true (by omega)
  have g3 : decide (t - p < 2147483648) = true := decide_eq_true (by omega)
  have g4 : (V == t) = false := beq_eq_false_iff_ne.2 (fun h => by have := y10.1 h; omega)
  have g5 : decide (-512 ≤ t - p) = false := decide_eq_false (by omega)
  have g6 : decide (t - p < 512) = true := decide_eq_true (by omega)
  clear x32 y32 x10 y10 u32 u10 b10 e32 lb ht1 ht2 hp1 hp2 n0 n1 ho k1 k2
  go_enter Try.func7, Try.ntmps7
  go_wp2_with first
    | (go_at_call 35; refine (erasstand_any _).mono ?_; rintro e w1 ⟨rfl, hb⟩; have B := Lib.hid hb; clear hb)
    | (go_at_call 17; refine (HO.out _).mono ?_; rintro e w2 ⟨rfl, hb⟩; have B := Lib.hid (B.out.trans (hb.mono B.out.size)); clear hb)
    | (go_at_call 19; refine (HT.out _).mono ?_; rintro e w3 ⟨rfl, hb⟩; have B := Lib.hid (bel_boxed B.out hb); clear hb)
    | (go_at_call 37; refine (HG.out _).mono ?_; rintro e w' ⟨rfl, rfl⟩)
    | (go_at_call 36; refine (HL.out _).mono ?_; rintro e w' ⟨rfl, rfl⟩)
  go_ret
  exact ⟨by simp, B.out⟩
set_option maxHeartbeats 1600000 in
theorem eras_near_high (t p n : Int) (w : World) (ht1 : -1152921504606846976 ≤ t) (ht2 : t ≤ 1152921504606846976) (hp1 : -1152921504606846976 ≤ p) (hp2 : p ≤ 1152921504606846976) (ho : okn n = true) (k1 : 512 ≤ t - p) (k2 : t - p < 2147483648) :
    Calls Try.prog 7 #[.int .i64 t, .int .i64 p, .int .i64 n] w fun e w' => e = .returned (.bool true) ∧ Below w.heap.size w w' := by
  have q0 := fun op t W x k => guard_ev op t W x k
  have q1 := fun W k => eql_ev W k
  have q2 := fun W k => neq_ev W k
  have d0 : decide (1152921504606846976 < t) = false := decide_eq_false (by omega)
  have d1 : decide (t < -1152921504606846976) = false := decide_eq_false (by omega)
  have d2 : decide (1152921504606846976 < p) = false := decide_eq_false (by omega)
  have d3 : decide (p < -1152921504606846976) = false := decide_eq_false (by omega)
  obtain ⟨n0, n1⟩ := okn_yes ho
  have HO := Lib.hid (fun w => sof_any15 t n w (by unfold fits; omega) (by unfold fits; omega))
  rw [(lf_yes ho).1, ho, if_pos rfl] at HO
  have lb := lf_bd n
  obtain ⟨c32, x32, y32⟩ := un_fold t p 32 (by decide)
  obtain ⟨c10, x10, y10⟩ := un_fold t p 10 (by decide)
  have u32 := un_bd (fo t 32) p (n := 32) (by decide)
  have u10 := un_bd (fo t 10) p (n := 10) (by decide)
  have b10 := fo_bd t 10
  have e32 : hf 32 = 2147483648 := rfl
  rw [e32] at y32 u32
  rw [hf_10] at y10 u10
  rw [pw_32] at x32
  rw [pw_10] at x10 b10
  have HT : Hid (∀ w, Calls Try.prog 19 #[.agg #[.int .u32 (t % 4294967296), .int .u32 (lfN n)], .int .i64 p] w fun e w' => e = .returned (.tuple #[.int .i64 (un (fo t 32) p 32), .int .i64 n, ev 0]) ∧ Below w.heap.size w w') := Lib.hid (fun w => by
    have := stime_any (t % 4294967296) (lfN n) p w (by omega) (by omega) lb.1 lb.2 (by unfold fits; omega)
    have hfit : fits (un (fo t 32) p 32) := by unfold fits; omega
    rw [show t % 4294967296 = fo t 32 from rfl, sm_fit hfit, bad_fit hfit, if_pos hfit, ln_lf ho] at this
    exact this)
  have HG := Lib.hid (fun w => gshort_any t w (by unfold fits; omega))
  have HL : Hid (∀ w, Calls Try.prog 36 #[.int .i64 (fo t 10), .int .i64 p] w fun e w' => e = .returned (.tuple #[.int .i64 (un (fo t 10) p 10), ev 0]) ∧ w = w') := Lib.hid (fun w => by
    have := glong_any (fo t 10) p w (by unfold fits; omega) (by unfold fits; omega)
    have hfit : fits (un (fo t 10) p 10) := by unfold fits; omega
    have hr : ¬ (fo t 10 < 0 ∨ 1023 < fo t 10) := by omega
    unfold loN loE at this
    rw [if_neg hr, if_neg hr, sm_fit hfit, bad_fit hfit] at this
    exact this)
  generalize fo t 10 = F10 at *
  generalize un F10 p 10 = V at *
  generalize un (fo t 32) p 32 = U at *
  generalize lfN n = F at *
  generalize hS : t % 4294967296 = S at *
  clear hS
  have r1 : IntKind.i64.wrap (U - t) = U - t := IntWalk.i64_in _ (by omega)
  have r2 : (U - t).tmod 4294967296 = 0 := by rw [x32]; exact tmod_mul _ _
  have r3 : IntKind.i64.wrap (t - p) = t - p := IntWalk.i64_in _ (by omega)
  have r4 : IntKind.i64.wrap (V - t) = V - t := IntWalk.i64_in _ (by omega)
  have r5 : (V - t).tmod 1024 = 0 := by rw [x10]; exact tmod_mul _ _
  have g1 : (U == t) = true := beq_iff_eq.2 (y32.2 (by omega))
  have g2 : decide (-2147483648 ≤ t - p) = true := decide_eq_true (by omega)
  have g3 : decide (t - p < 2147483648) = true := decide_eq_true (by omega)
  have g4 : (V == t) = false := beq_eq_false_iff_ne.2 (fun h => by have := y10.1 h; omega)
  have g5 : decide (-512 ≤ t - p) = true := decide_eq_true (by omega)
  have g6 : decide (t - p < 512) = false := decide_eq_false (by omega)
  clear x32 y32 x10 y10 u32 u10 b10 e32 lb ht1 ht2 hp1 hp2 n0 n1 ho k1 k2
  go_enter Try.func7, Try.ntmps7
  go_wp2_with first
    | (go_at_call 35; refine (erasstand_any _).mono ?_; rintro e w1 ⟨rfl, hb⟩; have B := Lib.hid hb; clear hb)
    | (go_at_call 17; refine (HO.out _).mono ?_; rintro e w2 ⟨rfl, hb⟩; have B := Lib.hid (B.out.trans (hb.mono B.out.size)); clear hb)
    | (go_at_call 19; refine (HT.out _).mono ?_; rintro e w3 ⟨rfl, hb⟩; have B := Lib.hid (bel_boxed B.out hb); clear hb)
    | (go_at_call 37; refine (HG.out _).mono ?_; rintro e w' ⟨rfl, rfl⟩)
    | (go_at_call 36; refine (HL.out _).mono ?_; rintro e w' ⟨rfl, rfl⟩)
  go_ret
  exact ⟨by simp, B.out⟩
set_option maxHeartbeats 1600000 in
theorem eras_far_low (t p n : Int) (w : World) (ht1 : -1152921504606846976 ≤ t) (ht2 : t ≤ 1152921504606846976) (hp1 : -1152921504606846976 ≤ p) (hp2 : p ≤ 1152921504606846976) (ho : okn n = true) (k1 : t - p < -2147483648) (k2 : True) :
    Calls Try.prog 7 #[.int .i64 t, .int .i64 p, .int .i64 n] w fun e w' => e = .returned (.bool true) ∧ Below w.heap.size w w' := by
  have q0 := fun op t W x k => guard_ev op t W x k
  have q1 := fun W k => eql_ev W k
  have q2 := fun W k => neq_ev W k
  have d0 : decide (1152921504606846976 < t) = false := decide_eq_false (by omega)
  have d1 : decide (t < -1152921504606846976) = false := decide_eq_false (by omega)
  have d2 : decide (1152921504606846976 < p) = false := decide_eq_false (by omega)
  have d3 : decide (p < -1152921504606846976) = false := decide_eq_false (by omega)
  obtain ⟨n0, n1⟩ := okn_yes ho
  have HO := Lib.hid (fun w => sof_any15 t n w (by unfold fits; omega) (by unfold fits; omega))
  rw [(lf_yes ho).1, ho, if_pos rfl] at HO
  have lb := lf_bd n
  obtain ⟨c32, x32, y32⟩ := un_fold t p 32 (by decide)
  obtain ⟨c10, x10, y10⟩ := un_fold t p 10 (by decide)
  have u32 := un_bd (fo t 32) p (n := 32) (by decide)
  have u10 := un_bd (fo t 10) p (n := 10) (by decide)
  have b10 := fo_bd t 10
  have e32 : hf 32 = 2147483648 := rfl
  rw [e32] at y32 u32
  rw [hf_10] at y10 u10
  rw [pw_32] at x32
  rw [pw_10] at x10 b10
  have HT : Hid (∀ w, Calls Try.prog 19 #[.agg #[.int .u32 (t % 4294967296), .int .u32 (lfN n)], .int .i64 p] w fun e w' => e = .returned (.tuple #[.int .i64 (un (fo t 32) p 32), .int .i64 n, ev 0]) ∧ Below w.heap.size w w') := Lib.hid (fun w => by
    have := stime_any (t % 4294967296) (lfN n) p w (by omega) (by omega) lb.1 lb.2 (by unfold fits; omega)
    have hfit : fits (un (fo t 32) p 32) := by unfold fits; omega
    rw [show t % 4294967296 = fo t 32 from rfl, sm_fit hfit, bad_fit hfit, if_pos hfit, ln_lf ho] at this
    exact this)
  have HG := Lib.hid (fun w => gshort_any t w (by unfold fits; omega))
  have HL : Hid (∀ w, Calls Try.prog 36 #[.int .i64 (fo t 10), .int .i64 p] w fun e w' => e = .returned (.tuple #[.int .i64 (un (fo t 10) p 10), ev 0]) ∧ w = w') := Lib.hid (fun w => by
    have := glong_any (fo t 10) p w (by unfold fits; omega) (by unfold fits; omega)
    have hfit : fits (un (fo t 10) p 10) := by unfold fits; omega
    have hr : ¬ (fo t 10 < 0 ∨ 1023 < fo t 10) := by omega
    unfold loN loE at this
    rw [if_neg hr, if_neg hr, sm_fit hfit, bad_fit hfit] at this
    exact this)
  generalize fo t 10 = F10 at *
  generalize un F10 p 10 = V at *
  generalize un (fo t 32) p 32 = U at *
  generalize lfN n = F at *
  generalize hS : t % 4294967296 = S at *
  clear hS
  have r1 : IntKind.i64.wrap (U - t) = U - t := IntWalk.i64_in _ (by omega)
  have r2 : (U - t).tmod 4294967296 = 0 := by rw [x32]; exact tmod_mul _ _
  have r3 : IntKind.i64.wrap (t - p) = t - p := IntWalk.i64_in _ (by omega)
  have r4 : IntKind.i64.wrap (V - t) = V - t := IntWalk.i64_in _ (by omega)
  have r5 : (V - t).tmod 1024 = 0 := by rw [x10]; exact tmod_mul _ _
  have g1 : (U == t) = false := beq_eq_false_iff_ne.2 (fun h => by have := y32.1 h; omega)
  have g2 : decide (-2147483648 ≤ t - p) = false := decide_eq_false (by omega)
  have g3 : decide (t - p < 2147483648) = true := decide_eq_true (by omega)
  have g4 : (V == t) = false := beq_eq_false_iff_ne.2 (fun h => by have := y10.1 h; omega)
  have g5 : decide (-512 ≤ t - p) = false := decide_eq_false (by omega)
  have g6 : decide (t - p < 512) = true := decide_eq_true (by omega)
  clear x32 y32 x10 y10 u32 u10 b10 e32 lb ht1 ht2 hp1 hp2 n0 n1 ho k1 k2
  go_enter Try.func7, Try.ntmps7
  go_wp2_with first
    | (go_at_call 35; refine (erasstand_any _).mono ?_; rintro e w1 ⟨rfl, hb⟩; have B := Lib.hid hb; clear hb)
    | (go_at_call 17; refine (HO.out _).mono ?_; rintro e w2 ⟨rfl, hb⟩; have B := Lib.hid (B.out.trans (hb.mono B.out.size)); clear hb)
    | (go_at_call 19; refine (HT.out _).mono ?_; rintro e w3 ⟨rfl, hb⟩; have B := Lib.hid (bel_boxed B.out hb); clear hb)
    | (go_at_call 37; refine (HG.out _).mono ?_; rintro e w' ⟨rfl, rfl⟩)
    | (go_at_call 36; refine (HL.out _).mono ?_; rintro e w' ⟨rfl, rfl⟩)
  go_ret
  exact ⟨by simp, B.out⟩
set_option maxHeartbeats 1600000 in
theorem eras_far_high (t p n : Int) (w : World) (ht1 : -1152921504606846976 ≤ t) (ht2 : t ≤ 1152921504606846976) (hp1 : -1152921504606846976 ≤ p) (hp2 : p ≤ 1152921504606846976) (ho : okn n = true) (k1 : 2147483648 ≤ t - p) (k2 : True) :
    Calls Try.prog 7 #[.int .i64 t, .int .i64 p, .int .i64 n] w fun e w' => e = .returned (.bool true) ∧ Below w.heap.size w w' := by
  have q0 := fun op t W x k => guard_ev op t W x k
  have q1 := fun W k => eql_ev W k
  have q2 := fun W k => neq_ev W k
  have d0 : decide (1152921504606846976 < t) = false := decide_eq_false (by omega)
  have d1 : decide (t < -1152921504606846976) = false := decide_eq_false (by omega)
  have d2 : decide (1152921504606846976 < p) = false := decide_eq_false (by omega)
  have d3 : decide (p < -1152921504606846976) = false := decide_eq_false (by omega)
  obtain ⟨n0, n1⟩ := okn_yes ho
  have HO := Lib.hid (fun w => sof_any15 t n w (by unfold fits; omega) (by unfold fits; omega))
  rw [(lf_yes ho).1, ho, if_pos rfl] at HO
  have lb := lf_bd n
  obtain ⟨c32, x32, y32⟩ := un_fold t p 32 (by decide)
  obtain ⟨c10, x10, y10⟩ := un_fold t p 10 (by decide)
  have u32 := un_bd (fo t 32) p (n := 32) (by decide)
  have u10 := un_bd (fo t 10) p (n := 10) (by decide)
  have b10 := fo_bd t 10
  have e32 : hf 32 = 2147483648 := rfl
  rw [e32] at y32 u32
  rw [hf_10] at y10 u10
  rw [pw_32] at x32
  rw [pw_10] at x10 b10
  have HT : Hid (∀ w, Calls Try.prog 19 #[.agg #[.int .u32 (t % 4294967296), .int .u32 (lfN n)], .int .i64 p] w fun e w' => e = .returned (.tuple #[.int .i64 (un (fo t 32) p 32), .int .i64 n, ev 0]) ∧ Below w.heap.size w w') := Lib.hid (fun w => by
    have := stime_any (t % 4294967296) (lfN n) p w (by omega) (by omega) lb.1 lb.2 (by unfold fits; omega)
    have hfit : fits (un (fo t 32) p 32) := by unfold fits; omega
    rw [show t % 4294967296 = fo t 32 from rfl, sm_fit hfit, bad_fit hfit, if_pos hfit, ln_lf ho] at this
    exact this)
  have HG := Lib.hid (fun w => gshort_any t w (by unfold fits; omega))
  have HL : Hid (∀ w, Calls Try.prog 36 #[.int .i64 (fo t 10), .int .i64 p] w fun e w' => e = .returned (.tuple #[.int .i64 (un (fo t 10) p 10), ev 0]) ∧ w = w') := Lib.hid (fun w => by
    have := glong_any (fo t 10) p w (by unfold fits; omega) (by unfold fits; omega)
    have hfit : fits (un (fo t 10) p 10) := by unfold fits; omega
    have hr : ¬ (fo t 10 < 0 ∨ 1023 < fo t 10) := by omega
    unfold loN loE at this
    rw [if_neg hr, if_neg hr, sm_fit hfit, bad_fit hfit] at this
    exact this)
  generalize fo t 10 = F10 at *
  generalize un F10 p 10 = V at *
  generalize un (fo t 32) p 32 = U at *
  generalize lfN n = F at *
  generalize hS : t % 4294967296 = S at *
  clear hS
  have r1 : IntKind.i64.wrap (U - t) = U - t := IntWalk.i64_in _ (by omega)
  have r2 : (U - t).tmod 4294967296 = 0 := by rw [x32]; exact tmod_mul _ _
  have r3 : IntKind.i64.wrap (t - p) = t - p := IntWalk.i64_in _ (by omega)
  have r4 : IntKind.i64.wrap (V - t) = V - t := IntWalk.i64_in _ (by omega)
  have r5 : (V - t).tmod 1024 = 0 := by rw [x10]; exact tmod_mul _ _
  have g1 : (U == t) = false := beq_eq_false_iff_ne.2 (fun h => by have := y32.1 h; omega)
  have g2 : decide (-2147483648 ≤ t - p) = true := decide_eq_true (by omega)
  have g3 : decide (t - p < 2147483648) = false := decide_eq_false (by omega)
  have g4 : (V == t) = false := beq_eq_false_iff_ne.2 (fun h => by have := y10.1 h; omega)
  have g5 : decide (-512 ≤ t - p) = true := decide_eq_true (by omega)
  have g6 : decide (t - p < 512) = false := decide_eq_false (by omega)
  clear x32 y32 x10 y10 u32 u10 b10 e32 lb ht1 ht2 hp1 hp2 n0 n1 ho k1 k2
  go_enter Try.func7, Try.ntmps7
  go_wp2_with first
    | (go_at_call 35; refine (erasstand_any _).mono ?_; rintro e w1 ⟨rfl, hb⟩; have B := Lib.hid hb; clear hb)
    | (go_at_call 17; refine (HO.out _).mono ?_; rintro e w2 ⟨rfl, hb⟩; have B := Lib.hid (B.out.trans (hb.mono B.out.size)); clear hb)
    | (go_at_call 19; refine (HT.out _).mono ?_; rintro e w3 ⟨rfl, hb⟩; have B := Lib.hid (bel_boxed B.out hb); clear hb)
    | (go_at_call 37; refine (HG.out _).mono ?_; rintro e w' ⟨rfl, rfl⟩)
    | (go_at_call 36; refine (HL.out _).mono ?_; rintro e w' ⟨rfl, rfl⟩)
  go_ret
  exact ⟨by simp, B.out⟩
theorem eras_walk (t p n : Int) (w : World) (ht : fits t) (hp : fits p) (hn : fits n) :
    Calls Try.prog 7 #[.int .i64 t, .int .i64 p, .int .i64 n] w fun e w' => e = .returned (.bool true) ∧ Below w.heap.size w w' := by
  by_cases c0 : 1152921504606846976 < t
  · exact eras_far0 t p n w c0
  by_cases c1 : t < -1152921504606846976
  · exact eras_far1 t p n w c0 c1
  by_cases c2 : 1152921504606846976 < p
  · exact eras_far2 t p n w c0 c1 c2
  by_cases c3 : p < -1152921504606846976
  · exact eras_far3 t p n w c0 c1 c2 c3
  cases ho : okn n with
  | false =>
    rcases okn_no ho with h | ⟨h, g⟩
    · exact eras_low t p n w (by omega) (by omega) (by omega) (by omega) hn ho h
    · exact eras_high t p n w (by omega) (by omega) (by omega) (by omega) hn ho h g
  | true =>
    by_cases a : t - p < -2147483648
    · exact eras_far_low t p n w (by omega) (by omega) (by omega) (by omega) ho a trivial
    by_cases b : 2147483648 ≤ t - p
    · exact eras_far_high t p n w (by omega) (by omega) (by omega) (by omega) ho b trivial
    by_cases c : t - p < -512
    · exact eras_near_low t p n w (by omega) (by omega) (by omega) (by omega) ho (by omega) c
    by_cases d : 512 ≤ t - p
    · exact eras_near_high t p n w (by omega) (by omega) (by omega) (by omega) ho d (by omega)
    exact eras_near t p n w (by omega) (by omega) (by omega) (by omega) ho (by omega) (by omega)
end Go.Proofs.Ytbffpallhofonaa
