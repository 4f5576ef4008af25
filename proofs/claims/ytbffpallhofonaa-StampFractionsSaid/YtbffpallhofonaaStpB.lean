/- The document's Least, Whole, Within; StampFractions. (Written by gen_stp.py.) -/
import Derived.Test.YtbffpallhofonaaStpA
namespace Go.Proofs.Ytbffpallhofonaa
open Go.RowKit
set_option linter.unusedVariables false
set_option linter.unusedSimpArgs false

theorem rwhole_true (n f p : Int) (w : World) (h0 : 0 ≤ n) (hn : n ≤ 999999999) (hf0 : 0 ≤ f) (hf : f < 4294967296) (hp : p = 4294967296 ∨ p = 65536) (h1 : n * p ≤ f * 1000000000) (h2 : f * 1000000000 < (n + 1) * p) :
    Calls Try.prog 10 #[.int .u64 n, .int .u64 f, .int .u64 p] w fun e w' => e = .returned (.bool true) ∧ w = w' := by
  have r1 : IntKind.u64.wrap (n * p) = n * p := IntWalk.u64_in _ (by rcases hp with rfl | rfl <;> omega)
  have r2 : IntKind.u64.wrap (f * 1000000000) = f * 1000000000 := IntWalk.u64_in _ (by omega)
  have r3 : IntKind.u64.wrap (n + 1) = n + 1 := IntWalk.u64_in _ (by omega)
  have r4 : IntKind.u64.wrap ((n + 1) * p) = (n + 1) * p := IntWalk.u64_in _ (by rcases hp with rfl | rfl <;> omega)
  have d1 : decide (n * p ≤ f * 1000000000) = true := decide_eq_true h1
  have d2 : decide (f * 1000000000 < (n + 1) * p) = true := decide_eq_true h2
  clear h1 h2 hp hf0 hf h0 hn
  go_enter Try.func10, Try.ntmps10
  go_wp2
  go_ret
  exact ⟨rfl, rfl⟩
theorem rleast_true (n f : Int) (w : World) (h0 : 0 ≤ n) (hn : n ≤ 999999999) (hf0 : 0 ≤ f) (hf : f < 4294967296) (h1 : n * 4294967296 ≤ f * 1000000000) (h2 : f = 0 ∨ (f - 1) * 1000000000 < n * 4294967296) :
    Calls Try.prog 15 #[.int .u64 f, .int .u64 4294967296, .int .u64 n] w fun e w' => e = .returned (.bool true) ∧ w = w' := by
  have r1 : IntKind.u64.wrap (n * 4294967296) = n * 4294967296 := IntWalk.u64_in _ (by omega)
  have r2 : IntKind.u64.wrap (f * 1000000000) = f * 1000000000 := IntWalk.u64_in _ (by omega)
  have d1 : decide (n * 4294967296 ≤ f * 1000000000) = true := decide_eq_true h1
  by_cases c : f = 0
  · subst c
    have d2 : ((0 : Int) == 0) = true := rfl
    rw [Int.zero_mul] at d1 r2
    clear h1 h2 hf0 hf h0 hn
    go_enter Try.func15, Try.ntmps15
    go_wp2
    go_ret
    exact ⟨rfl, rfl⟩
  · have d2 : (f == 0) = false := beq_eq_false_iff_ne.2 c
    have r3 : IntKind.u64.wrap (f - 1) = f - 1 := IntWalk.u64_in _ (by omega)
    have r4 : IntKind.u64.wrap ((f - 1) * 1000000000) = (f - 1) * 1000000000 := IntWalk.u64_in _ (by omega)
    have d3 : decide ((f - 1) * 1000000000 < n * 4294967296) = true := decide_eq_true (h2.resolve_left c)
    clear h1 h2 hf0 hf h0 hn c
    go_enter Try.func15, Try.ntmps15
    go_wp2
    go_ret
    exact ⟨rfl, rfl⟩
theorem rwithin_true (n f : Int) (w : World) (h0 : 0 ≤ n) (hn : n ≤ 999999999) (hf0 : 0 ≤ f) (hf : f < 65536) (h1 : f * 1000000000 ≤ n * 65536) (h2 : n * 65536 < (f + 1) * 1000000000) :
    Calls Try.prog 16 #[.int .u64 f, .int .u64 65536, .int .u64 n] w fun e w' => e = .returned (.bool true) ∧ w = w' := by
  have r1 : IntKind.u64.wrap (n * 65536) = n * 65536 := IntWalk.u64_in _ (by omega)
  have r2 : IntKind.u64.wrap (f * 1000000000) = f * 1000000000 := IntWalk.u64_in _ (by omega)
  have r3 : IntKind.u64.wrap (f + 1) = f + 1 := IntWalk.u64_in _ (by omega)
  have r4 : IntKind.u64.wrap ((f + 1) * 1000000000) = (f + 1) * 1000000000 := IntWalk.u64_in _ (by omega)
  have d1 : decide (f * 1000000000 ≤ n * 65536) = true := decide_eq_true h1
  have d2 : decide (n * 65536 < (f + 1) * 1000000000) = true := decide_eq_true h2
  clear h1 h2 hf0 hf h0 hn
  go_enter Try.func16, Try.ntmps16
  go_wp2
  go_ret
  exact ⟨rfl, rfl⟩
set_option maxHeartbeats 1600000 in
theorem frac_low (n s f : Int) (w : World) (hn : fits n) (hs : fits s) (h0 : 0 ≤ f) (h1 : f < 4294967296) (ho : okn n = false) (hlo : n < 0) :
    Calls Try.prog 3 #[.int .i64 n, .int .i64 s, .int .u32 f] w fun e w' => e = .returned (.bool true) ∧ Below w.heap.size w w' := by
  have q0 := fun op t W x k => guard_ev op t W x k
  have q1 := fun W k => eql_ev W k
  have q2 := fun W k => neq_ev W k
  have bN := ln_bd h0 h1
  have bM := sn_bd (f := f % 65536) (by omega) (by omega)
  have HN := Lib.hid (fun w => snano_any f w h0 h1)
  have HSp := Lib.hid (fun w => sspan_any (f / 65536) (f % 65536) w (by omega) (by omega) (by omega) (by omega))
  have wh := whole_is h0
  have wt := whole_short (f := f % 65536) (by omega)
  have HW1 := Lib.hid (fun w => rwhole_true (lnN f) f 4294967296 w bN.1 bN.2 h0 h1 (.inl rfl) wh.1 wh.2)
  have HW2 := Lib.hid (fun w => rwhole_true (snN (f % 65536)) (f % 65536) 65536 w bM.1 bM.2 (by omega) (by omega) (.inr rfl) wt.1 wt.2)
  have HF := Lib.hid (fun w => sfraction_any n w hn)
  have HS := Lib.hid (fun w => sshort_any s n w hs hn)
  rw [(lf_no ho).1, (lf_no ho).2] at HF
  obtain ⟨e1, e2, e3⟩ := sh_no (s := s) (n := n) (by rw [ho]; simp)
  rw [e1, e2, e3] at HS
  clear e1 e2 e3
  obtain ⟨bN1, bN2⟩ := bN
  obtain ⟨bM1, bM2⟩ := bM
  generalize lnN f = N at *
  generalize hM : snN (f % 65536) = M at *
  clear wh wt hM
  have r2 : IntKind.u64.wrap f = f := IntWalk.u64_in _ (by omega)
  have r1 : IntKind.u64.wrap N = N := IntWalk.u64_in _ (by omega)
  have r3 : IntKind.u16.wrap (f / 65536) = f / 65536 := by rw [IntKind.wrap_u16]; omega
  have r4 : IntKind.u16.wrap f = f % 65536 := IntKind.wrap_u16 f
  have r5 : IntKind.i64.wrap (f / 65536) = f / 65536 := IntWalk.i64_in _ (by omega)
  have r6 : IntKind.u64.wrap M = M := IntWalk.u64_in _ (by omega)
  have r7 : IntKind.u64.wrap (f % 65536) = f % 65536 := IntWalk.u64_in _ (by omega)
  have d1 : decide (N < 0) = false := decide_eq_false (by omega)
  have d2 : decide (M < 0) = false := decide_eq_false (by omega)
  clear bN1 bN2 bM1 bM2
  have d3 : decide (n < 0) = true := decide_eq_true hlo
  clear hlo ho hn hs
  go_enter Try.func3, Try.ntmps3
  go_wp2_with first
    | (go_at_call 8; refine (alive15_any _).mono ?_; rintro e w' ⟨rfl, rfl⟩)
    | (go_at_call 11; refine (HSp.out _).mono ?_; rintro e w1 ⟨rfl, hb⟩; have B := Lib.hid hb; clear hb)
    | (go_at_call 9; refine (HN.out _).mono ?_; rintro e w' ⟨rfl, rfl⟩)
    | (go_at_call_of 10 (Value.int IntKind.u64 N); refine (HW1.out _).mono ?_; rintro e w' ⟨rfl, rfl⟩)
    | (go_at_call 10; refine (HW2.out _).mono ?_; rintro e w' ⟨rfl, rfl⟩)
    | (go_at_call 12; refine (HF.out _).mono ?_; rintro e w' ⟨rfl, rfl⟩)
    | (go_at_call 13; refine (HS.out _).mono ?_; rintro e w2 ⟨rfl, hb⟩; have B := Lib.hid (B.out.trans (hb.mono B.out.size)); clear hb)
    | (go_at_call 14; refine (is_any 1 1 _ (by decide) (by decide)).mono ?_; rintro e w' ⟨rfl, rfl⟩)
  go_ret
  exact ⟨by simp, B.out.alloc B.out.size _⟩

set_option maxHeartbeats 1600000 in
theorem frac_high (n s f : Int) (w : World) (hn : fits n) (hs : fits s) (h0 : 0 ≤ f) (h1 : f < 4294967296) (ho : okn n = false) (hlo : 0 ≤ n) (hhi : 999999999 < n) :
    Calls Try.prog 3 #[.int .i64 n, .int .i64 s, .int .u32 f] w fun e w' => e = .returned (.bool true) ∧ Below w.heap.size w w' := by
  have q0 := fun op t W x k => guard_ev op t W x k
  have q1 := fun W k => eql_ev W k
  have q2 := fun W k => neq_ev W k
  have bN := ln_bd h0 h1
  have bM := sn_bd (f := f % 65536) (by omega) (by omega)
  have HN := Lib.hid (fun w => snano_any f w h0 h1)
  have HSp := Lib.hid (fun w => sspan_any (f / 65536) (f % 65536) w (by omega) (by omega) (by omega) (by omega))
  have wh := whole_is h0
  have wt := whole_short (f := f % 65536) (by omega)
  have HW1 := Lib.hid (fun w => rwhole_true (lnN f) f 4294967296 w bN.1 bN.2 h0 h1 (.inl rfl) wh.1 wh.2)
  have HW2 := Lib.hid (fun w => rwhole_true (snN (f % 65536)) (f % 65536) 65536 w bM.1 bM.2 (by omega) (by omega) (.inr rfl) wt.1 wt.2)
  have HF := Lib.hid (fun w => sfraction_any n w hn)
  have HS := Lib.hid (fun w => sshort_any s n w hs hn)
  rw [(lf_no ho).1, (lf_no ho).2] at HF
  obtain ⟨e1, e2, e3⟩ := sh_no (s := s) (n := n) (by rw [ho]; simp)
  rw [e1, e2, e3] at HS
  clear e1 e2 e3
  obtain ⟨bN1, bN2⟩ := bN
  obtain ⟨bM1, bM2⟩ := bM
  generalize lnN f = N at *
  generalize hM : snN (f % 65536) = M at *
  clear wh wt hM
  have r2 : IntKind.u64.wrap f = f := IntWalk.u64_in _ (by omega)
  have r1 : IntKind.u64.wrap N = N := IntWalk.u64_in _ (by omega)
  have r3 : IntKind.u16.wrap (f / 65536) = f / 65536 := by rw [IntKind.wrap_u16]; omega
  have r4 : IntKind.u16.wrap f = f % 65536 := IntKind.wrap_u16 f
  have r5 : IntKind.i64.wrap (f / 65536) = f / 65536 := IntWalk.i64_in _ (by omega)
  have r6 : IntKind.u64.wrap M = M := IntWalk.u64_in _ (by omega)
  have r7 : IntKind.u64.wrap (f % 65536) = f % 65536 := IntWalk.u64_in _ (by omega)
  have d1 : decide (N < 0) = false := decide_eq_false (by omega)
  have d2 : decide (M < 0) = false := decide_eq_false (by omega)
  clear bN1 bN2 bM1 bM2
  have d3 : decide (n < 0) = false := decide_eq_false (by omega)
  have d4 : decide (999999999 < n) = true := decide_eq_true hhi
  clear hlo hhi ho hn hs
  go_enter Try.func3, Try.ntmps3
  go_wp2_with first
    | (go_at_call 8; refine (alive15_any _).mono ?_; rintro e w' ⟨rfl, rfl⟩)
    | (go_at_call 11; refine (HSp.out _).mono ?_; rintro e w1 ⟨rfl, hb⟩; have B := Lib.hid hb; clear hb)
    | (go_at_call 9; refine (HN.out _).mono ?_; rintro e w' ⟨rfl, rfl⟩)
    | (go_at_call_of 10 (Value.int IntKind.u64 N); refine (HW1.out _).mono ?_; rintro e w' ⟨rfl, rfl⟩)
    | (go_at_call 10; refine (HW2.out _).mono ?_; rintro e w' ⟨rfl, rfl⟩)
    | (go_at_call 12; refine (HF.out _).mono ?_; rintro e w' ⟨rfl, rfl⟩)
    | (go_at_call 13; refine (HS.out _).mono ?_; rintro e w2 ⟨rfl, hb⟩; have B := Lib.hid (B.out.trans (hb.mono B.out.size)); clear hb)
    | (go_at_call 14; refine (is_any 1 1 _ (by decide) (by decide)).mono ?_; rintro e w' ⟨rfl, rfl⟩)
  go_ret
  exact ⟨by simp, B.out.alloc B.out.size _⟩

set_option maxHeartbeats 1600000 in
theorem frac_slow (n s f : Int) (w : World) (hn : fits n) (hs : fits s) (h0 : 0 ≤ f) (h1 : f < 4294967296) (ho : okn n = true) (hsl : s < 0) :
    Calls Try.prog 3 #[.int .i64 n, .int .i64 s, .int .u32 f] w fun e w' => e = .returned (.bool true) ∧ Below w.heap.size w w' := by
  have q0 := fun op t W x k => guard_ev op t W x k
  have q1 := fun W k => eql_ev W k
  have q2 := fun W k => neq_ev W k
  have bN := ln_bd h0 h1
  have bM := sn_bd (f := f % 65536) (by omega) (by omega)
  have HN := Lib.hid (fun w => snano_any f w h0 h1)
  have HSp := Lib.hid (fun w => sspan_any (f / 65536) (f % 65536) w (by omega) (by omega) (by omega) (by omega))
  have wh := whole_is h0
  have wt := whole_short (f := f % 65536) (by omega)
  have HW1 := Lib.hid (fun w => rwhole_true (lnN f) f 4294967296 w bN.1 bN.2 h0 h1 (.inl rfl) wh.1 wh.2)
  have HW2 := Lib.hid (fun w => rwhole_true (snN (f % 65536)) (f % 65536) 65536 w bM.1 bM.2 (by omega) (by omega) (.inr rfl) wt.1 wt.2)
  have HF := Lib.hid (fun w => sfraction_any n w hn)
  have HS := Lib.hid (fun w => sshort_any s n w hs hn)
  obtain ⟨e1, e2, e3⟩ := sh_no (s := s) (n := n) (fun h => absurd h.1 (by omega))
  rw [e1, e2, e3] at HS
  clear e1 e2 e3
  obtain ⟨ol, oh⟩ := okn_yes ho
  rw [(lf_yes ho).1] at HF
  have lb := lf_bd n
  have le := least_is ho
  have HL := Lib.hid (fun w => rleast_true n (lfN n) w ol oh lb.1 lb.2 le.1 le.2)
  obtain ⟨lb1, lb2⟩ := lb
  clear le
  generalize lfN n = F at *
  obtain ⟨bN1, bN2⟩ := bN
  obtain ⟨bM1, bM2⟩ := bM
  generalize lnN f = N at *
  generalize hM : snN (f % 65536) = M at *
  clear wh wt hM
  have r2 : IntKind.u64.wrap f = f := IntWalk.u64_in _ (by omega)
  have r1 : IntKind.u64.wrap N = N := IntWalk.u64_in _ (by omega)
  have r3 : IntKind.u16.wrap (f / 65536) = f / 65536 := by rw [IntKind.wrap_u16]; omega
  have r4 : IntKind.u16.wrap f = f % 65536 := IntKind.wrap_u16 f
  have r5 : IntKind.i64.wrap (f / 65536) = f / 65536 := IntWalk.i64_in _ (by omega)
  have r6 : IntKind.u64.wrap M = M := IntWalk.u64_in _ (by omega)
  have r7 : IntKind.u64.wrap (f % 65536) = f % 65536 := IntWalk.u64_in _ (by omega)
  have d1 : decide (N < 0) = false := decide_eq_false (by omega)
  have d2 : decide (M < 0) = false := decide_eq_false (by omega)
  clear bN1 bN2 bM1 bM2
  have r8 : IntKind.u64.wrap F = F := IntWalk.u64_in _ (by omega)
  have r9 : IntKind.u64.wrap n = n := IntWalk.u64_in _ (by omega)
  have d3 : decide (n < 0) = false := decide_eq_false (by omega)
  have d4 : decide (999999999 < n) = false := decide_eq_false (by omega)
  have d5 : decide (s < 0) = true := decide_eq_true hsl
  clear ol oh lb1 lb2 hsl ho hn hs
  go_enter Try.func3, Try.ntmps3
  go_wp2_with first
    | (go_at_call 8; refine (alive15_any _).mono ?_; rintro e w' ⟨rfl, rfl⟩)
    | (go_at_call 11; refine (HSp.out _).mono ?_; rintro e w1 ⟨rfl, hb⟩; have B := Lib.hid hb; clear hb)
    | (go_at_call 9; refine (HN.out _).mono ?_; rintro e w' ⟨rfl, rfl⟩)
    | (go_at_call_of 10 (Value.int IntKind.u64 N); refine (HW1.out _).mono ?_; rintro e w' ⟨rfl, rfl⟩)
    | (go_at_call 10; refine (HW2.out _).mono ?_; rintro e w' ⟨rfl, rfl⟩)
    | (go_at_call 12; refine (HF.out _).mono ?_; rintro e w' ⟨rfl, rfl⟩)
    | (go_at_call 13; refine (HS.out _).mono ?_; rintro e w2 ⟨rfl, hb⟩; have B := Lib.hid (B.out.trans (hb.mono B.out.size)); clear hb)
    | (go_at_call 14; refine (is_any 1 1 _ (by decide) (by decide)).mono ?_; rintro e w' ⟨rfl, rfl⟩)
    | (go_at_call 15; refine (HL.out _).mono ?_; rintro e w' ⟨rfl, rfl⟩)
  go_ret
  exact ⟨by simp, B.out.alloc B.out.size _⟩

set_option maxHeartbeats 1600000 in
theorem frac_shigh (n s f : Int) (w : World) (hn : fits n) (hs : fits s) (h0 : 0 ≤ f) (h1 : f < 4294967296) (ho : okn n = true) (hsl : 0 ≤ s) (hsh : 65535 < s) :
    Calls Try.prog 3 #[.int .i64 n, .int .i64 s, .int .u32 f] w fun e w' => e = .returned (.bool true) ∧ Below w.heap.size w w' := by
  have q0 := fun op t W x k => guard_ev op t W x k
  have q1 := fun W k => eql_ev W k
  have q2 := fun W k => neq_ev W k
  have bN := ln_bd h0 h1
  have bM := sn_bd (f := f % 65536) (by omega) (by omega)
  have HN := Lib.hid (fun w => snano_any f w h0 h1)
  have HSp := Lib.hid (fun w => sspan_any (f / 65536) (f % 65536) w (by omega) (by omega) (by omega) (by omega))
  have wh := whole_is h0
  have wt := whole_short (f := f % 65536) (by omega)
  have HW1 := Lib.hid (fun w => rwhole_true (lnN f) f 4294967296 w bN.1 bN.2 h0 h1 (.inl rfl) wh.1 wh.2)
  have HW2 := Lib.hid (fun w => rwhole_true (snN (f % 65536)) (f % 65536) 65536 w bM.1 bM.2 (by omega) (by omega) (.inr rfl) wt.1 wt.2)
  have HF := Lib.hid (fun w => sfraction_any n w hn)
  have HS := Lib.hid (fun w => sshort_any s n w hs hn)
  obtain ⟨e1, e2, e3⟩ := sh_no (s := s) (n := n) (fun h => absurd h.2.1 (by omega))
  rw [e1, e2, e3] at HS
  clear e1 e2 e3
  obtain ⟨ol, oh⟩ := okn_yes ho
  rw [(lf_yes ho).1] at HF
  have lb := lf_bd n
  have le := least_is ho
  have HL := Lib.hid (fun w => rleast_true n (lfN n) w ol oh lb.1 lb.2 le.1 le.2)
  obtain ⟨lb1, lb2⟩ := lb
  clear le
  generalize lfN n = F at *
  obtain ⟨bN1, bN2⟩ := bN
  obtain ⟨bM1, bM2⟩ := bM
  generalize lnN f = N at *
  generalize hM : snN (f % 65536) = M at *
  clear wh wt hM
  have r2 : IntKind.u64.wrap f = f := IntWalk.u64_in _ (by omega)
  have r1 : IntKind.u64.wrap N = N := IntWalk.u64_in _ (by omega)
  have r3 : IntKind.u16.wrap (f / 65536) = f / 65536 := by rw [IntKind.wrap_u16]; omega
  have r4 : IntKind.u16.wrap f = f % 65536 := IntKind.wrap_u16 f
  have r5 : IntKind.i64.wrap (f / 65536) = f / 65536 := IntWalk.i64_in _ (by omega)
  have r6 : IntKind.u64.wrap M = M := IntWalk.u64_in _ (by omega)
  have r7 : IntKind.u64.wrap (f % 65536) = f % 65536 := IntWalk.u64_in _ (by omega)
  have d1 : decide (N < 0) = false := decide_eq_false (by omega)
  have d2 : decide (M < 0) = false := decide_eq_false (by omega)
  clear bN1 bN2 bM1 bM2
  have r8 : IntKind.u64.wrap F = F := IntWalk.u64_in _ (by omega)
  have r9 : IntKind.u64.wrap n = n := IntWalk.u64_in _ (by omega)
  have d3 : decide (n < 0) = false := decide_eq_false (by omega)
  have d4 : decide (999999999 < n) = false := decide_eq_false (by omega)
  have d5 : decide (s < 0) = false := decide_eq_false (by omega)
  have d6 : decide (65535 < s) = true := decide_eq_true hsh
  clear ol oh lb1 lb2 hsl hsh ho hn hs
  go_enter Try.func3, Try.ntmps3
  go_wp2_with first
    | (go_at_call 8; refine (alive15_any _).mono ?_; rintro e w' ⟨rfl, rfl⟩)
    | (go_at_call 11; refine (HSp.out _).mono ?_; rintro e w1 ⟨rfl, hb⟩; have B := Lib.hid hb; clear hb)
    | (go_at_call 9; refine (HN.out _).mono ?_; rintro e w' ⟨rfl, rfl⟩)
    | (go_at_call_of 10 (Value.int IntKind.u64 N); refine (HW1.out _).mono ?_; rintro e w' ⟨rfl, rfl⟩)
    | (go_at_call 10; refine (HW2.out _).mono ?_; rintro e w' ⟨rfl, rfl⟩)
    | (go_at_call 12; refine (HF.out _).mono ?_; rintro e w' ⟨rfl, rfl⟩)
    | (go_at_call 13; refine (HS.out _).mono ?_; rintro e w2 ⟨rfl, hb⟩; have B := Lib.hid (B.out.trans (hb.mono B.out.size)); clear hb)
    | (go_at_call 14; refine (is_any 1 1 _ (by decide) (by decide)).mono ?_; rintro e w' ⟨rfl, rfl⟩)
    | (go_at_call 15; refine (HL.out _).mono ?_; rintro e w' ⟨rfl, rfl⟩)
  go_ret
  exact ⟨by simp, B.out.alloc B.out.size _⟩

set_option maxHeartbeats 1600000 in
theorem frac_yes (n s f : Int) (w : World) (hn : fits n) (hs : fits s) (h0 : 0 ≤ f) (h1 : f < 4294967296) (ho : okn n = true) (hsl : 0 ≤ s) (hsh : s ≤ 65535) :
    Calls Try.prog 3 #[.int .i64 n, .int .i64 s, .int .u32 f] w fun e w' => e = .returned (.bool true) ∧ Below w.heap.size w w' := by
  have q0 := fun op t W x k => guard_ev op t W x k
  have q1 := fun W k => eql_ev W k
  have q2 := fun W k => neq_ev W k
  have bN := ln_bd h0 h1
  have bM := sn_bd (f := f % 65536) (by omega) (by omega)
  have HN := Lib.hid (fun w => snano_any f w h0 h1)
  have HSp := Lib.hid (fun w => sspan_any (f / 65536) (f % 65536) w (by omega) (by omega) (by omega) (by omega))
  have wh := whole_is h0
  have wt := whole_short (f := f % 65536) (by omega)
  have HW1 := Lib.hid (fun w => rwhole_true (lnN f) f 4294967296 w bN.1 bN.2 h0 h1 (.inl rfl) wh.1 wh.2)
  have HW2 := Lib.hid (fun w => rwhole_true (snN (f % 65536)) (f % 65536) 65536 w bM.1 bM.2 (by omega) (by omega) (.inr rfl) wt.1 wt.2)
  have HF := Lib.hid (fun w => sfraction_any n w hn)
  have HS := Lib.hid (fun w => sshort_any s n w hs hn)
  obtain ⟨e1, e2, e3⟩ := sh_yes hsl hsh ho
  rw [e1, e2, e3] at HS
  clear e1 e2 e3
  obtain ⟨ol, oh⟩ := okn_yes ho
  rw [(lf_yes ho).1] at HF
  have lb := lf_bd n
  have le := least_is ho
  have HL := Lib.hid (fun w => rleast_true n (lfN n) w ol oh lb.1 lb.2 le.1 le.2)
  obtain ⟨lb1, lb2⟩ := lb
  clear le
  generalize lfN n = F at *
  have wi := within_is ol
  have HT := Lib.hid (fun w => rwithin_true n (n * 65536 / 1000000000) w ol oh (by omega) (by omega) wi.1 wi.2)
  have sb : 0 ≤ n * 65536 / 1000000000 ∧ n * 65536 / 1000000000 < 65536 := by omega
  generalize n * 65536 / 1000000000 = T at *
  clear wi
  obtain ⟨bN1, bN2⟩ := bN
  obtain ⟨bM1, bM2⟩ := bM
  generalize lnN f = N at *
  generalize hM : snN (f % 65536) = M at *
  clear wh wt hM
  have r2 : IntKind.u64.wrap f = f := IntWalk.u64_in _ (by omega)
  have r1 : IntKind.u64.wrap N = N := IntWalk.u64_in _ (by omega)
  have r3 : IntKind.u16.wrap (f / 65536) = f / 65536 := by rw [IntKind.wrap_u16]; omega
  have r4 : IntKind.u16.wrap f = f % 65536 := IntKind.wrap_u16 f
  have r5 : IntKind.i64.wrap (f / 65536) = f / 65536 := IntWalk.i64_in _ (by omega)
  have r6 : IntKind.u64.wrap M = M := IntWalk.u64_in _ (by omega)
  have r7 : IntKind.u64.wrap (f % 65536) = f % 65536 := IntWalk.u64_in _ (by omega)
  have d1 : decide (N < 0) = false := decide_eq_false (by omega)
  have d2 : decide (M < 0) = false := decide_eq_false (by omega)
  clear bN1 bN2 bM1 bM2
  have r8 : IntKind.u64.wrap F = F := IntWalk.u64_in _ (by omega)
  have r9 : IntKind.u64.wrap n = n := IntWalk.u64_in _ (by omega)
  have d3 : decide (n < 0) = false := decide_eq_false (by omega)
  have d4 : decide (999999999 < n) = false := decide_eq_false (by omega)
  have d5 : decide (s < 0) = false := decide_eq_false (by omega)
  have d6 : decide (65535 < s) = false := decide_eq_false (by omega)
  have r10 : IntKind.i64.wrap s = s := IntWalk.i64_in _ (by omega)
  have r11 : IntKind.u64.wrap T = T := IntWalk.u64_in _ (by omega)
  clear ol oh lb1 lb2 hsl hsh ho hn hs sb
  go_enter Try.func3, Try.ntmps3
  go_wp2_with first
    | (go_at_call 8; refine (alive15_any _).mono ?_; rintro e w' ⟨rfl, rfl⟩)
    | (go_at_call 11; refine (HSp.out _).mono ?_; rintro e w1 ⟨rfl, hb⟩; have B := Lib.hid hb; clear hb)
    | (go_at_call 9; refine (HN.out _).mono ?_; rintro e w' ⟨rfl, rfl⟩)
    | (go_at_call_of 10 (Value.int IntKind.u64 N); refine (HW1.out _).mono ?_; rintro e w' ⟨rfl, rfl⟩)
    | (go_at_call 10; refine (HW2.out _).mono ?_; rintro e w' ⟨rfl, rfl⟩)
    | (go_at_call 12; refine (HF.out _).mono ?_; rintro e w' ⟨rfl, rfl⟩)
    | (go_at_call 13; refine (HS.out _).mono ?_; rintro e w2 ⟨rfl, hb⟩; have B := Lib.hid (B.out.trans (hb.mono B.out.size)); clear hb)
    | (go_at_call 15; refine (HL.out _).mono ?_; rintro e w' ⟨rfl, rfl⟩)
    | (go_at_call 16; refine (HT.out _).mono ?_; rintro e w' ⟨rfl, rfl⟩)
  go_ret
  exact ⟨by simp, B.out.alloc B.out.size _⟩

theorem frac_walk (n s f : Int) (w : World) (hn : fits n) (hs : fits s) (h0 : 0 ≤ f) (h1 : f < 4294967296) :
    Calls Try.prog 3 #[.int .i64 n, .int .i64 s, .int .u32 f] w fun e w' => e = .returned (.bool true) ∧ Below w.heap.size w w' := by
  cases ho : okn n with
  | false =>
    rcases okn_no ho with h | ⟨h, g⟩
    · exact frac_low n s f w hn hs h0 h1 ho h
    · exact frac_high n s f w hn hs h0 h1 ho h g
  | true =>
    by_cases a : s < 0
    · exact frac_slow n s f w hn hs h0 h1 ho a
    · by_cases b : 65535 < s
      · exact frac_shigh n s f w hn hs h0 h1 ho (by omega) b
      · exact frac_yes n s f w hn hs h0 h1 ho (by omega) (by omega)
end Go.Proofs.Ytbffpallhofonaa
