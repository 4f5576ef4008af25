/- The law RuleClocks, walked. (Written by gen_rulz.py.) -/
import Derived.Test.YtlngnllcjfbicaaDoorRulX
import Derived.Test.YtlngnllcjfbicaaDoorRulY
import Derived.Test.YtlngnllcjfbicaaDoorRulL
namespace Go.Proofs.YtlngnllcjfbicaaDoor
open Go.RowKit
set_option linter.unusedVariables false
set_option linter.unusedSimpArgs false

theorem clocks16_long (t most : Int) (s : ByteArray) (w : World) (he : Ends w) (h : 100 < s.size) :
    Calls Tryd.prog 5 #[.int .i64 t, .int .i64 most, .string s] w fun x w' => x = .returned (.bool true) ∧ Below w.heap.size w w' := by
  have HA := Lib.hid (alive16_any w he)
  have t1 : decide ((100 : Int) < (s.size : Int)) = true := lt_yes (by omega)
  clear he h
  go_enter Tryd.func5, Tryd.ntmps5
  go_wp2_with (go_at_call 8; refine HA.out.mono ?_; rintro x w1 ⟨rfl, hb⟩; have B := Lib.hid hb; clear hb)
  go_ret
  exact ⟨rfl, B.out⟩
set_option maxHeartbeats 4000000 in
theorem clocks16_A (t most : Int) (s : ByteArray) (w : World) (he : Ends w) (hT : Tab w) (ht : fits t) (hz : s.size ≤ 100) (h : most < 0) :
    Calls Tryd.prog 5 #[.int .i64 t, .int .i64 most, .string s] w fun x w' => x = .returned (.bool true) ∧ Below w.heap.size w w' := by
  have q0 := fun op t W x k => guard_ev op t W x k
  have q1 := fun W k => eql_ev W k
  have q2 := fun W k => neq_ev W k
  have HA := Lib.hid (alive16_any w he)
  have T := Lib.hid hT
  have HP := Lib.hid (fun w => parseclock_any s most w (by omega))
  have HR := Lib.hid (fun w => rparseclock_any s most w (by omega))
  have HN := Lib.hid (fun w => num_any (pcE s.data.toList most) w (pcE_bd _ _).1 (pcE_bd _ _).2)
  have HU := Lib.hid (fun w hT => putclock_any t most w hT ht)
  have z0 : decide ((100 : Int) < (s.size : Int)) = false := lt_no (by omega)
  generalize pcE s.data.toList most = E at *
  generalize pcN s.data.toList most = X at *
  have hp : ¬ pkP t most := fun ⟨a, b, c⟩ => by unfold moP at a; omega
  have e1 : pkL t most = [] := if_neg hp
  have e2 : pkE t most = 1 := if_neg hp
  rw [e1, e2] at HU
  have HI := Lib.hid (fun w => is_any 1 1 w (by decide) (by decide))
  have t1 := lt_yes h
  clear h
  clear e1 e2 hp he hT ht hz
  go_enter Tryd.func5, Tryd.ntmps5
  go_wp2_with (first
    | (go_at_call 8; refine HA.out.mono ?_; rintro x w1 ⟨rfl, hb⟩; have B := Lib.hid hb; have T := Lib.hid (T.out.below hb); clear hb)
    | (go_at_call 20; refine (HP.out _).mono ?_; rintro x w2 ⟨rfl, hb⟩; have T := Lib.hid (T.out.below hb); have B := Lib.hid (B.out.trans (hb.mono B.out.size)); clear hb)
    | (go_at_call 21; refine (HR.out _).mono ?_; rintro x w3 ⟨rfl, hb⟩; have T := Lib.hid (T.out.below hb); have B := Lib.hid (B.out.trans (hb.mono B.out.size)); clear hb)
    | (go_at_call 13; refine (HN.out _).mono ?_; rintro x w4 ⟨rfl, rfl⟩)
    | (go_at_call 22; refine (HU.out _ T.out).mono ?_; rintro x w5 ⟨rfl, hb⟩; have T := Lib.hid (T.out.below hb); have B := Lib.hid (B.out.trans (hb.mono B.out.size)); clear hb)
    | (go_at_call 23; refine (HI.out _).mono ?_; rintro x w6 ⟨rfl, rfl⟩))
  go_ret
  exact ⟨rfl, B.out⟩
set_option maxHeartbeats 4000000 in
theorem clocks16_B (t most : Int) (s : ByteArray) (w : World) (he : Ends w) (hT : Tab w) (ht : fits t) (hz : s.size ≤ 100) (h0 : ¬ most < 0) (h : 999 < most) :
    Calls Tryd.prog 5 #[.int .i64 t, .int .i64 most, .string s] w fun x w' => x = .returned (.bool true) ∧ Below w.heap.size w w' := by
  have q0 := fun op t W x k => guard_ev op t W x k
  have q1 := fun W k => eql_ev W k
  have q2 := fun W k => neq_ev W k
  have HA := Lib.hid (alive16_any w he)
  have T := Lib.hid hT
  have HP := Lib.hid (fun w => parseclock_any s most w (by omega))
  have HR := Lib.hid (fun w => rparseclock_any s most w (by omega))
  have HN := Lib.hid (fun w => num_any (pcE s.data.toList most) w (pcE_bd _ _).1 (pcE_bd _ _).2)
  have HU := Lib.hid (fun w hT => putclock_any t most w hT ht)
  have z0 : decide ((100 : Int) < (s.size : Int)) = false := lt_no (by omega)
  generalize pcE s.data.toList most = E at *
  generalize pcN s.data.toList most = X at *
  have hp : ¬ pkP t most := fun ⟨a, b, c⟩ => by unfold moP at a; omega
  have e1 : pkL t most = [] := if_neg hp
  have e2 : pkE t most = 1 := if_neg hp
  rw [e1, e2] at HU
  have HI := Lib.hid (fun w => is_any 1 1 w (by decide) (by decide))
  have t1 := lt_no h0
  have t2 := lt_yes h
  clear h h0
  clear e1 e2 hp he hT ht hz
  go_enter Tryd.func5, Tryd.ntmps5
  go_wp2_with (first
    | (go_at_call 8; refine HA.out.mono ?_; rintro x w1 ⟨rfl, hb⟩; have B := Lib.hid hb; have T := Lib.hid (T.out.below hb); clear hb)
    | (go_at_call 20; refine (HP.out _).mono ?_; rintro x w2 ⟨rfl, hb⟩; have T := Lib.hid (T.out.below hb); have B := Lib.hid (B.out.trans (hb.mono B.out.size)); clear hb)
    | (go_at_call 21; refine (HR.out _).mono ?_; rintro x w3 ⟨rfl, hb⟩; have T := Lib.hid (T.out.below hb); have B := Lib.hid (B.out.trans (hb.mono B.out.size)); clear hb)
    | (go_at_call 13; refine (HN.out _).mono ?_; rintro x w4 ⟨rfl, rfl⟩)
    | (go_at_call 22; refine (HU.out _ T.out).mono ?_; rintro x w5 ⟨rfl, hb⟩; have T := Lib.hid (T.out.below hb); have B := Lib.hid (B.out.trans (hb.mono B.out.size)); clear hb)
    | (go_at_call 23; refine (HI.out _).mono ?_; rintro x w6 ⟨rfl, rfl⟩))
  go_ret
  exact ⟨rfl, B.out⟩
set_option maxHeartbeats 4000000 in
theorem clocks16_C (t most : Int) (s : ByteArray) (w : World) (he : Ends w) (hT : Tab w) (ht : fits t) (hz : s.size ≤ 100) (h0 : ¬ most < 0) (h1 : ¬ 999 < most) (h : most * 3600 + 3599 < t) :
    Calls Tryd.prog 5 #[.int .i64 t, .int .i64 most, .string s] w fun x w' => x = .returned (.bool true) ∧ Below w.heap.size w w' := by
  have q0 := fun op t W x k => guard_ev op t W x k
  have q1 := fun W k => eql_ev W k
  have q2 := fun W k => neq_ev W k
  have HA := Lib.hid (alive16_any w he)
  have T := Lib.hid hT
  have HP := Lib.hid (fun w => parseclock_any s most w (by omega))
  have HR := Lib.hid (fun w => rparseclock_any s most w (by omega))
  have HN := Lib.hid (fun w => num_any (pcE s.data.toList most) w (pcE_bd _ _).1 (pcE_bd _ _).2)
  have HU := Lib.hid (fun w hT => putclock_any t most w hT ht)
  have z0 : decide ((100 : Int) < (s.size : Int)) = false := lt_no (by omega)
  generalize pcE s.data.toList most = E at *
  generalize pcN s.data.toList most = X at *
  have hp : ¬ pkP t most := fun ⟨a, b, c⟩ => by unfold moP at a; omega
  have e1 : pkL t most = [] := if_neg hp
  have e2 : pkE t most = 1 := if_neg hp
  rw [e1, e2] at HU
  have HI := Lib.hid (fun w => is_any 1 1 w (by decide) (by decide))
  have t1 := lt_no h0
  have t2 := lt_no h1
  obtain ⟨P, hP⟩ : ∃ P, P = most * 3600 + 3599 := ⟨_, rfl⟩
  obtain ⟨M, hM⟩ : ∃ M, M = most * 3600 := ⟨_, rfl⟩
  obtain ⟨O, hO⟩ : ∃ O, O = -most * 3600 := ⟨_, rfl⟩
  obtain ⟨R, hR⟩ : ∃ R, R = -most * 3600 - 3599 := ⟨_, rfl⟩
  have r1 : IntKind.i64.wrap (most * 3600) = M := by rw [hM]; exact IntWalk.i64_in _ (by omega)
  have r2 : IntKind.i64.wrap (M + 3599) = P := by rw [hP, hM]; exact IntWalk.i64_in _ (by omega)
  have r3 : IntKind.i64.wrap (-most) = -most := IntWalk.i64_in _ (by omega)
  have r4 : IntKind.i64.wrap (-most * 3600) = O := by rw [hO]; exact IntWalk.i64_in _ (by omega)
  have r5 : IntKind.i64.wrap (O - 3599) = R := by rw [hR, hO]; exact IntWalk.i64_in _ (by omega)
  have r6 : IntKind.i64.wrap (-(most * 3600)) = O := by rw [hO, show -(most * 3600) = -most * 3600 by omega]; exact IntWalk.i64_in _ (by omega)
  have s1 : wrap64 (most * 3600) = M := by rw [hM]; unfold wrap64; omega
  have s2 : wrap64 (M + 3599) = P := by rw [hP, hM]; unfold wrap64; omega
  have s3 : wrap64 (-most) = -most := by unfold wrap64; omega
  have s4 : wrap64 (-most * 3600) = O := by rw [hO]; unfold wrap64; omega
  have s5 : wrap64 (O - 3599) = R := by rw [hR, hO]; unfold wrap64; omega
  have s6 : wrap64 (-(most * 3600)) = O := by rw [hO]; unfold wrap64; omega
  have t3 : decide (P < t) = true := lt_yes (by omega)
  clear h h0 h1
  clear hP hM hO hR
  clear e1 e2 hp he hT ht hz
  go_enter Tryd.func5, Tryd.ntmps5
  go_wp2_with (first
    | (go_at_call 8; refine HA.out.mono ?_; rintro x w1 ⟨rfl, hb⟩; have B := Lib.hid hb; have T := Lib.hid (T.out.below hb); clear hb)
    | (go_at_call 20; refine (HP.out _).mono ?_; rintro x w2 ⟨rfl, hb⟩; have T := Lib.hid (T.out.below hb); have B := Lib.hid (B.out.trans (hb.mono B.out.size)); clear hb)
    | (go_at_call 21; refine (HR.out _).mono ?_; rintro x w3 ⟨rfl, hb⟩; have T := Lib.hid (T.out.below hb); have B := Lib.hid (B.out.trans (hb.mono B.out.size)); clear hb)
    | (go_at_call 13; refine (HN.out _).mono ?_; rintro x w4 ⟨rfl, rfl⟩)
    | (go_at_call 22; refine (HU.out _ T.out).mono ?_; rintro x w5 ⟨rfl, hb⟩; have T := Lib.hid (T.out.below hb); have B := Lib.hid (B.out.trans (hb.mono B.out.size)); clear hb)
    | (go_at_call 23; refine (HI.out _).mono ?_; rintro x w6 ⟨rfl, rfl⟩))
  go_ret
  exact ⟨rfl, B.out⟩
set_option maxHeartbeats 4000000 in
theorem clocks16_D (t most : Int) (s : ByteArray) (w : World) (he : Ends w) (hT : Tab w) (ht : fits t) (hz : s.size ≤ 100) (h0 : ¬ most < 0) (h1 : ¬ 999 < most) (h2 : ¬ most * 3600 + 3599 < t) (h : t < -most * 3600 - 3599) :
    Calls Tryd.prog 5 #[.int .i64 t, .int .i64 most, .string s] w fun x w' => x = .returned (.bool true) ∧ Below w.heap.size w w' := by
  have q0 := fun op t W x k => guard_ev op t W x k
  have q1 := fun W k => eql_ev W k
  have q2 := fun W k => neq_ev W k
  have HA := Lib.hid (alive16_any w he)
  have T := Lib.hid hT
  have HP := Lib.hid (fun w => parseclock_any s most w (by omega))
  have HR := Lib.hid (fun w => rparseclock_any s most w (by omega))
  have HN := Lib.hid (fun w => num_any (pcE s.data.toList most) w (pcE_bd _ _).1 (pcE_bd _ _).2)
  have HU := Lib.hid (fun w hT => putclock_any t most w hT ht)
  have z0 : decide ((100 : Int) < (s.size : Int)) = false := lt_no (by omega)
  generalize pcE s.data.toList most = E at *
  generalize pcN s.data.toList most = X at *
  have hp : ¬ pkP t most := fun ⟨a, b, c⟩ => by unfold moP at a; omega
  have e1 : pkL t most = [] := if_neg hp
  have e2 : pkE t most = 1 := if_neg hp
  rw [e1, e2] at HU
  have HI := Lib.hid (fun w => is_any 1 1 w (by decide) (by decide))
  have t1 := lt_no h0
  have t2 := lt_no h1
  obtain ⟨P, hP⟩ : ∃ P, P = most * 3600 + 3599 := ⟨_, rfl⟩
  obtain ⟨M, hM⟩ : ∃ M, M = most * 3600 := ⟨_, rfl⟩
  obtain ⟨O, hO⟩ : ∃ O, O = -most * 3600 := ⟨_, rfl⟩
  obtain ⟨R, hR⟩ : ∃ R, R = -most * 3600 - 3599 := ⟨_, rfl⟩
  have r1 : IntKind.i64.wrap (most * 3600) = M := by rw [hM]; exact IntWalk.i64_in _ (by omega)
  have r2 : IntKind.i64.wrap (M + 3599) = P := by rw [hP, hM]; exact IntWalk.i64_in _ (by omega)
  have r3 : IntKind.i64.wrap (-most) = -most := IntWalk.i64_in _ (by omega)
  have r4 : IntKind.i64.wrap (-most * 3600) = O := by rw [hO]; exact IntWalk.i64_in _ (by omega)
  have r5 : IntKind.i64.wrap (O - 3599) = R := by rw [hR, hO]; exact IntWalk.i64_in _ (by omega)
  have r6 : IntKind.i64.wrap (-(most * 3600)) = O := by rw [hO, show -(most * 3600) = -most * 3600 by omega]; exact IntWalk.i64_in _ (by omega)
  have s1 : wrap64 (most * 3600) = M := by rw [hM]; unfold wrap64; omega
  have s2 : wrap64 (M + 3599) = P := by rw [hP, hM]; unfold wrap64; omega
  have s3 : wrap64 (-most) = -most := by unfold wrap64; omega
  have s4 : wrap64 (-most * 3600) = O := by rw [hO]; unfold wrap64; omega
  have s5 : wrap64 (O - 3599) = R := by rw [hR, hO]; unfold wrap64; omega
  have s6 : wrap64 (-(most * 3600)) = O := by rw [hO]; unfold wrap64; omega
  have t3 : decide (P < t) = false := lt_no (by omega)
  have t4 : decide (t < R) = true := lt_yes (by omega)
  clear h h0 h1 h2
  clear hP hM hO hR
  clear e1 e2 hp he hT ht hz
  go_enter Tryd.func5, Tryd.ntmps5
  go_wp2_with (first
    | (go_at_call 8; refine HA.out.mono ?_; rintro x w1 ⟨rfl, hb⟩; have B := Lib.hid hb; have T := Lib.hid (T.out.below hb); clear hb)
    | (go_at_call 20; refine (HP.out _).mono ?_; rintro x w2 ⟨rfl, hb⟩; have T := Lib.hid (T.out.below hb); have B := Lib.hid (B.out.trans (hb.mono B.out.size)); clear hb)
    | (go_at_call 21; refine (HR.out _).mono ?_; rintro x w3 ⟨rfl, hb⟩; have T := Lib.hid (T.out.below hb); have B := Lib.hid (B.out.trans (hb.mono B.out.size)); clear hb)
    | (go_at_call 13; refine (HN.out _).mono ?_; rintro x w4 ⟨rfl, rfl⟩)
    | (go_at_call 22; refine (HU.out _ T.out).mono ?_; rintro x w5 ⟨rfl, hb⟩; have T := Lib.hid (T.out.below hb); have B := Lib.hid (B.out.trans (hb.mono B.out.size)); clear hb)
    | (go_at_call 23; refine (HI.out _).mono ?_; rintro x w6 ⟨rfl, rfl⟩))
  go_ret
  exact ⟨rfl, B.out⟩
set_option maxHeartbeats 4000000 in
theorem clocks16_E (t most : Int) (s : ByteArray) (w : World) (he : Ends w) (hT : Tab w) (ht : fits t) (hz : s.size ≤ 100) (h0 : ¬ most < 0) (h1 : ¬ 999 < most) (h2 : ¬ most * 3600 + 3599 < t) (h : ¬ t < -most * 3600 - 3599) :
    Calls Tryd.prog 5 #[.int .i64 t, .int .i64 most, .string s] w fun x w' => x = .returned (.bool true) ∧ Below w.heap.size w w' := by
  have q0 := fun op t W x k => guard_ev op t W x k
  have q1 := fun W k => eql_ev W k
  have q2 := fun W k => neq_ev W k
  have HA := Lib.hid (alive16_any w he)
  have T := Lib.hid hT
  have HP := Lib.hid (fun w => parseclock_any s most w (by omega))
  have HR := Lib.hid (fun w => rparseclock_any s most w (by omega))
  have HN := Lib.hid (fun w => num_any (pcE s.data.toList most) w (pcE_bd _ _).1 (pcE_bd _ _).2)
  have HU := Lib.hid (fun w hT => putclock_any t most w hT ht)
  have z0 : decide ((100 : Int) < (s.size : Int)) = false := lt_no (by omega)
  generalize pcE s.data.toList most = E at *
  generalize pcN s.data.toList most = X at *
  have hp : pkP t most := ⟨⟨by omega, by omega⟩, by omega, by omega⟩
  have e1 : pkL t most = ckL t := if_pos hp
  have e2 : pkE t most = 0 := if_pos hp
  rw [e1, e2] at HU
  have HC := Lib.hid (fun w => rclock_any t w (by omega))
  generalize (⟨(ckL t).toArray⟩ : ByteArray) = S at *
  have t1 := lt_no h0
  have t2 := lt_no h1
  obtain ⟨P, hP⟩ : ∃ P, P = most * 3600 + 3599 := ⟨_, rfl⟩
  obtain ⟨M, hM⟩ : ∃ M, M = most * 3600 := ⟨_, rfl⟩
  obtain ⟨O, hO⟩ : ∃ O, O = -most * 3600 := ⟨_, rfl⟩
  obtain ⟨R, hR⟩ : ∃ R, R = -most * 3600 - 3599 := ⟨_, rfl⟩
  have r1 : IntKind.i64.wrap (most * 3600) = M := by rw [hM]; exact IntWalk.i64_in _ (by omega)
  have r2 : IntKind.i64.wrap (M + 3599) = P := by rw [hP, hM]; exact IntWalk.i64_in _ (by omega)
  have r3 : IntKind.i64.wrap (-most) = -most := IntWalk.i64_in _ (by omega)
  have r4 : IntKind.i64.wrap (-most * 3600) = O := by rw [hO]; exact IntWalk.i64_in _ (by omega)
  have r5 : IntKind.i64.wrap (O - 3599) = R := by rw [hR, hO]; exact IntWalk.i64_in _ (by omega)
  have r6 : IntKind.i64.wrap (-(most * 3600)) = O := by rw [hO, show -(most * 3600) = -most * 3600 by omega]; exact IntWalk.i64_in _ (by omega)
  have s1 : wrap64 (most * 3600) = M := by rw [hM]; unfold wrap64; omega
  have s2 : wrap64 (M + 3599) = P := by rw [hP, hM]; unfold wrap64; omega
  have s3 : wrap64 (-most) = -most := by unfold wrap64; omega
  have s4 : wrap64 (-most * 3600) = O := by rw [hO]; unfold wrap64; omega
  have s5 : wrap64 (O - 3599) = R := by rw [hR, hO]; unfold wrap64; omega
  have s6 : wrap64 (-(most * 3600)) = O := by rw [hO]; unfold wrap64; omega
  have t3 : decide (P < t) = false := lt_no (by omega)
  have t4 : decide (t < R) = false := lt_no (by omega)
  clear h h0 h1 h2
  clear hP hM hO hR
  clear e1 e2 hp he hT ht hz
  go_enter Tryd.func5, Tryd.ntmps5
  go_wp2_with (first
    | (go_at_call 8; refine HA.out.mono ?_; rintro x w1 ⟨rfl, hb⟩; have B := Lib.hid hb; have T := Lib.hid (T.out.below hb); clear hb)
    | (go_at_call 20; refine (HP.out _).mono ?_; rintro x w2 ⟨rfl, hb⟩; have T := Lib.hid (T.out.below hb); have B := Lib.hid (B.out.trans (hb.mono B.out.size)); clear hb)
    | (go_at_call 21; refine (HR.out _).mono ?_; rintro x w3 ⟨rfl, hb⟩; have T := Lib.hid (T.out.below hb); have B := Lib.hid (B.out.trans (hb.mono B.out.size)); clear hb)
    | (go_at_call 13; refine (HN.out _).mono ?_; rintro x w4 ⟨rfl, rfl⟩)
    | (go_at_call 22; refine (HU.out _ T.out).mono ?_; rintro x w5 ⟨rfl, hb⟩; have T := Lib.hid (T.out.below hb); have B := Lib.hid (B.out.trans (hb.mono B.out.size)); clear hb)
    | (go_at_call 24; refine (HC.out _).mono ?_; rintro x w6 ⟨rfl, hb⟩; have T := Lib.hid (T.out.below hb); have B := Lib.hid (B.out.trans (hb.mono B.out.size)); clear hb))
  go_ret
  exact ⟨rfl, B.out⟩

theorem clocks16_walk (t most : Int) (s : ByteArray) (w : World) (he : Ends w) (hT : Tab w) (ht : fits t) :
    Calls Tryd.prog 5 #[.int .i64 t, .int .i64 most, .string s] w fun x w' => x = .returned (.bool true) ∧ Below w.heap.size w w' := by
  by_cases hz : 100 < s.size
  · exact clocks16_long t most s w he hz
  · by_cases h0 : most < 0
    · exact clocks16_A t most s w he hT ht (by omega) h0
    · by_cases h1 : 999 < most
      · exact clocks16_B t most s w he hT ht (by omega) h0 h1
      · by_cases h2 : most * 3600 + 3599 < t
        · exact clocks16_C t most s w he hT ht (by omega) h0 h1 h2
        · by_cases h3 : t < -most * 3600 - 3599
          · exact clocks16_D t most s w he hT ht (by omega) h0 h1 h2 h3
          · exact clocks16_E t most s w he hT ht (by omega) h0 h1 h2 h3
end Go.Proofs.YtlngnllcjfbicaaDoor
