/- Package era: Near, Split, Join; Fold and Unfold of words of each size. -/
import Derived.Test.YtdonicaiimeleaaEraA
import Derived.Test.YtdonicaiimeleaaOctA
namespace Go.Proofs.Ytdonicaiimeleaa
open Go.RowKit
set_option linter.unusedVariables false
set_option linter.unusedSimpArgs false

theorem near_no (t p b : Int) (w : World) (h : okb b = false) :
    Calls Try.prog 9 #[.int .i64 t, .int .i64 p, .int .i64 b] w fun e w' => e = .returned (.tuple #[.bool false, ev 1]) ∧ w = w' := by
  have HO := Lib.hid (allowed_any b)
  rw [h] at HO
  go_enter Try.func9, Try.ntmps9
  go_wp2_with (go_at_call 29; refine (HO.out _).mono ?_; rintro e w' ⟨rfl, rfl⟩)
  go_ret2
  exact ⟨rfl, rfl⟩
set_option maxHeartbeats 1600000 in
theorem near_yes (t p : Int) (n : Nat) (w : World) (ht : fits t) (hp : fits p) (h1 : 1 ≤ n) (h2 : n ≤ 62) :
    Calls Try.prog 9 #[.int .i64 t, .int .i64 p, .int .i64 n] w fun e w' => e = .returned (.tuple #[.bool (nr t p n), ev 0]) ∧ w = w' := by
  have HO := Lib.hid (allowed_any n)
  rw [okb_yes h1 h2] at HO
  have HS := Lib.hid (fun w => sub_any t p w ht hp)
  have HH := Lib.hid (fun w => half_any n w h1 h2)
  have hl := hf_61 h2; have hh0 := hf_pos n
  have q0 := fun op t W x k => guard_ev op t W x k
  have q1 := fun W k => eql_ev W k
  have q2 := fun W k => neq_ev W k
  by_cases hq : fits (t - p)
  · have HW := Lib.hid (fun w => within_any (t - p) (- hf n) (hf n - 1) w)
    have er : nr t p n = (decide (- hf n ≤ t - p) && decide (t - p ≤ hf n - 1)) := by
      unfold nr; congr 1 <;> exact decide_eq_decide.mpr (by omega)
    rw [er]
    rw [sm_fit hq, bad_fit hq] at HS
    have e1 : IntKind.i64.wrap (- hf n) = - hf n := IntWalk.i64_in _ (by omega)
    have e2 : IntKind.i64.wrap (hf n - 1) = hf n - 1 := IntWalk.i64_in _ (by omega)
    generalize hf n = H at *
    generalize t - p = D at *
    have Hl := Lib.hid hl
    generalize (decide (-H ≤ D) && decide (D ≤ H - 1)) = B at *
    clear er ht hp hq hl
    go_enter Try.func9, Try.ntmps9
    go_wp2_with first | (go_at_call 29; refine (HO.out _).mono ?_; rintro e w' ⟨rfl, rfl⟩) | (go_at_call 33; refine (HH.out _).mono ?_; rintro e w' ⟨rfl, rfl⟩) | (go_at_call 31; refine (HS.out _).mono ?_; rintro e w' ⟨rfl, rfl⟩) | (go_at_call 32; refine (HW.out _).mono ?_; rintro e w' ⟨rfl, rfl⟩)
    go_ret2
    exact ⟨rfl, rfl⟩
  · have er : nr t p n = false := by
      unfold nr
      rcases (by unfold fits at *; omega : ¬ p - hf n ≤ t ∨ ¬ t < p + hf n) with h | h
      · simp [h]
      · simp [h]
    rw [er]
    rw [sm_no hq, bad_no hq] at HS
    clear ht hp hq
    go_enter Try.func9, Try.ntmps9
    go_wp2_with first | (go_at_call 29; refine (HO.out _).mono ?_; rintro e w' ⟨rfl, rfl⟩) | (go_at_call 31; refine (HS.out _).mono ?_; rintro e w' ⟨rfl, rfl⟩)
    go_ret2
    exact ⟨rfl, rfl⟩

theorem fold8_any (t : Int) (w : World) : Calls Try.prog 17 #[.int .i64 t] w fun e w' => e = .returned (.int .u8 (t % 256)) ∧ w = w' := by
  have e1 : IntKind.u8.wrap t = t % 256 := IntKind.wrap_u8 t
  go_enter Try.func17, Try.ntmps17
  go_wp2
  go_ret
  exact ⟨rfl, rfl⟩
theorem fold16_any (t : Int) (w : World) : Calls Try.prog 18 #[.int .i64 t] w fun e w' => e = .returned (.int .u16 (t % 65536)) ∧ w = w' := by
  have e1 : IntKind.u16.wrap t = t % 65536 := IntKind.wrap_u16 t
  go_enter Try.func18, Try.ntmps18
  go_wp2
  go_ret
  exact ⟨rfl, rfl⟩
theorem fold32_any (t : Int) (w : World) : Calls Try.prog 19 #[.int .i64 t] w fun e w' => e = .returned (.int .u32 (t % 4294967296)) ∧ w = w' := by
  have e1 : IntKind.u32.wrap t = t % 4294967296 := IntKind.wrap_u32 t
  go_enter Try.func19, Try.ntmps19
  go_wp2
  go_ret
  exact ⟨rfl, rfl⟩

theorem unfold8_any (x p : Int) (w : World) (h0 : 0 ≤ x) (hx : x < 256) (hp : fits p) :
    Calls Try.prog 20 #[.int .u8 x, .int .i64 p] w fun e w' => e = .returned (.tuple #[.int .i64 (bsV x 8 p), ev (bsE x 8 p)]) ∧ w = w' := by
  have HB := Lib.hid (fun w => bits_any x 8 p w h0 (by omega) hp)
  go_enter Try.func20, Try.ntmps20
  go_wp2_with first | (go_at_call 37; refine (size8_any _).mono ?_; rintro e w' ⟨rfl, rfl⟩) | (go_at_call 10; refine (HB.out _).mono ?_; rintro e w' ⟨rfl, rfl⟩)
  go_ret2
  exact ⟨rfl, rfl⟩
theorem unfold16_any (x p : Int) (w : World) (h0 : 0 ≤ x) (hx : x < 65536) (hp : fits p) :
    Calls Try.prog 21 #[.int .u16 x, .int .i64 p] w fun e w' => e = .returned (.tuple #[.int .i64 (bsV x 16 p), ev (bsE x 16 p)]) ∧ w = w' := by
  have HB := Lib.hid (fun w => bits_any x 16 p w h0 (by omega) hp)
  go_enter Try.func21, Try.ntmps21
  go_wp2_with first | (go_at_call 38; refine (size16_any _).mono ?_; rintro e w' ⟨rfl, rfl⟩) | (go_at_call 10; refine (HB.out _).mono ?_; rintro e w' ⟨rfl, rfl⟩)
  go_ret2
  exact ⟨rfl, rfl⟩
theorem unfold32_any (x p : Int) (w : World) (h0 : 0 ≤ x) (hx : x < 4294967296) (hp : fits p) :
    Calls Try.prog 22 #[.int .u32 x, .int .i64 p] w fun e w' => e = .returned (.tuple #[.int .i64 (bsV x 32 p), ev (bsE x 32 p)]) ∧ w = w' := by
  have HB := Lib.hid (fun w => bits_any x 32 p w h0 (by omega) hp)
  go_enter Try.func22, Try.ntmps22
  go_wp2_with first | (go_at_call 39; refine (size32_any _).mono ?_; rintro e w' ⟨rfl, rfl⟩) | (go_at_call 10; refine (HB.out _).mono ?_; rintro e w' ⟨rfl, rfl⟩)
  go_ret2
  exact ⟨rfl, rfl⟩

theorem split13_any (t : Int) (w : World) (ht : fits t) :
    Calls Try.prog 23 #[.int .i64 t] w fun e w' => e = .returned (.tuple #[.int .i64 (t / 4294967296), .int .u32 (t % 4294967296)]) ∧ w = w' := by
  have HF := Lib.hid (fun w => fold32_any t w)
  clear ht
  go_enter Try.func23, Try.ntmps23
  go_wp2_with (go_at_call 19; refine (HF.out _).mono ?_; rintro e w' ⟨rfl, rfl⟩)
  go_ret2
  exact ⟨rfl, rfl⟩
theorem join_any (a s : Int) (w : World) (ha : fits a) (h0 : 0 ≤ s) (hs : s < 4294967296) :
    Calls Try.prog 28 #[.int .i64 a, .int .u32 s] w fun e w' => e = .returned (.tuple #[.int .i64 (sm (a * 4294967296 + s)), ev (bad (a * 4294967296 + s))]) ∧ w = w' := by
  have HM := Lib.hid (fun w => mul_any a 4294967296 w ha (by decide))
  have q0 := fun op t W x k => guard_ev op t W x k
  have q1 := fun W k => eql_ev W k
  have q2 := fun W k => neq_ev W k
  by_cases hf : fits (a * 4294967296)
  · rw [sm_fit hf, bad_fit hf] at HM
    have HA := Lib.hid (fun w => add_any (a * 4294967296) s w hf (by unfold fits; omega))
    generalize a * 4294967296 = m at *
    have e1 : IntKind.i64.wrap s = s := IntWalk.i64_in _ (by omega)
    clear ha hf h0 hs
    go_enter Try.func28, Try.ntmps28
    go_wp2_with first | (go_at_call 44; refine (HM.out _).mono ?_; rintro e w' ⟨rfl, rfl⟩) | (go_at_call 34; refine (HA.out _).mono ?_; rintro e w' ⟨rfl, rfl⟩)
    go_ret2
    exact ⟨rfl, rfl⟩
  · have hn := jo_over h0 hs hf
    rw [sm_no hn, bad_no hn]
    rw [sm_no hf, bad_no hf] at HM
    clear ha hf h0 hs hn
    go_enter Try.func28, Try.ntmps28
    go_wp2_with (go_at_call 44; refine (HM.out _).mono ?_; rintro e w' ⟨rfl, rfl⟩)
    go_ret2
    exact ⟨rfl, rfl⟩

theorem alive13_any (w : World) : Calls Try.prog 7 #[] w fun e w' => e = .returned (.bool true) ∧ w = w' := by
  have q0 := fun op t W x k => guard_ev op t W x k
  have q1 := fun W k => eql_ev W k
  have q2 := fun W k => neq_ev W k
  have HU := Lib.hid (fun w => unfold32_any 0 4294967290 w (by decide) (by decide) (by decide))
  rw [show bsV 0 32 4294967290 = 4294967296 by decide +kernel, show bsE 0 32 4294967290 = 0 by decide +kernel] at HU
  have HF := Lib.hid (fun w => fold8_any 257 w)
  rw [show (257 : Int) % 256 = 1 by decide] at HF
  go_enter Try.func7, Try.ntmps7
  go_wp2_with first | (go_at_call 22; refine (HU.out _).mono ?_; rintro e w' ⟨rfl, rfl⟩) | (go_at_call 17; refine (HF.out _).mono ?_; rintro e w' ⟨rfl, rfl⟩)
  go_ret
  exact ⟨rfl, rfl⟩
end Go.Proofs.Ytdonicaiimeleaa
