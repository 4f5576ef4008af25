/- Split, errors' numbers, and the fixed fact at each statement's head. -/
import Derived.Test.YteanpnmgdfflcaaNumA
import Derived.BigQuiet
import Derived.Deep.QuietTactic
namespace Go.Proofs.Yteanpnmgdfflcaa
open Go.RowKit

theorem fdiv_fits {a b : Int} (ha : fits a) (hb : 1 ≤ b) : fits (a.fdiv b) := by
  have h := fdm a b
  have hm := fmod_pos (a := a) (b := b) (by omega)
  unfold fits at *
  constructor
  · rcases Int.lt_or_le (a.fdiv b) (-9223372036854775808) with hlt | hge
    · exfalso
      have h1 : b * a.fdiv b ≤ b * (-9223372036854775809) := Int.mul_le_mul_of_nonneg_left (by omega) (by omega)
      omega
    · exact hge
  · rcases Int.lt_or_le 9223372036854775807 (a.fdiv b) with hlt | hge
    · exfalso
      have h1 : b * 9223372036854775808 ≤ b * a.fdiv b := Int.mul_le_mul_of_nonneg_left (by omega) (by omega)
      omega
    · exact hge

theorem div_pos (a b : Int) (w : World) (ha : fits a) (hb : fits b) (hb1 : 1 ≤ b) :
    Calls Try.prog 18 #[.int .i64 a, .int .i64 b] w fun e w' => e = .returned (.tuple #[.int .i64 (a.fdiv b), .nilIface]) ∧ w = w' := by
  have h := div_any a b w ha hb (by omega)
  rw [sm_fit (fdiv_fits ha hb1), bad_fit (fdiv_fits ha hb1)] at h
  exact h

theorem split_no (a b : Int) (w : World) (hb : b < 1) :
    Calls Try.prog 20 #[.int .i64 a, .int .i64 b] w fun e w' => e = .returned (.tuple #[.int .i64 0, .int .i64 0, ev 1]) ∧ w = w' := by
  go_enter Try.func20, Try.ntmps20
  go_wp2
  go_ret3
  exact ⟨ret3_eq rfl rfl rfl, rfl⟩

theorem split_any (a b : Int) (w : World) (ha : fits a) (hb : fits b) (hb1 : 1 ≤ b) :
    Calls Try.prog 20 #[.int .i64 a, .int .i64 b] w fun e w' => e = .returned (.tuple #[.int .i64 (a.fdiv b), .int .i64 (a.fmod b), .nilIface]) ∧ w = w' := by
  have hb' : ¬ (b < 1) := by omega
  go_enter Try.func20, Try.ntmps20
  go_wp2_with (first
    | (go_at_call 18; refine (div_pos _ _ _ ha hb hb1).mono ?_; rintro e w' ⟨rfl, rfl⟩)
    | (go_at_call 19; refine (mod_any _ _ _ ha hb (by omega)).mono ?_; rintro e w' ⟨rfl, rfl⟩))
  go_ret3
  exact ⟨ret3_eq rfl rfl rfl, rfl⟩

/-! errors as numbers -/
theorem num_nil (w : World) : Calls Try.prog 28 #[.nilIface] w fun e w' => e = .returned (.int .i64 0) ∧ w = w' := by
  go_enter Try.func28, Try.ntmps28
  go_wp2
  go_ret
  exact ⟨rfl, rfl⟩
theorem err_yes (W : World) (v : Value) : (Instr.typeAssert (.iface 39 v) 28 39 true).run Try.prog W = .ok (.tuple #[v, .bool true]) W := by kernel_rfl
theorem num_some (k : Int) (w : World) (hk : 0 < k) (hk' : k < 100) : Calls Try.prog 28 #[.iface 39 (.int .i64 k)] w fun e w' => e = .returned (.int .i64 k) ∧ w = w' := by
  have h0 : (k != 0) = true := bne_iff_ne.mpr (by omega)
  have h1 := err_yes w (.int .i64 k)
  go_enter Try.func28, Try.ntmps28
  go_wp2
  go_ret
  exact ⟨rfl, rfl⟩
theorem num_any (k : Int) (w : World) (hk : 0 ≤ k) (hk' : k < 100) : Calls Try.prog 28 #[ev k] w fun e w' => e = .returned (.int .i64 k) ∧ w = w' := by
  by_cases h : k = 0
  · subst h; exact num_nil w
  · rw [ev_pos (by omega)]; exact num_some k w (by omega) hk'
theorem is_any (k n : Int) (w : World) (hk : 0 ≤ k) (hk' : k < 100) : Calls Try.prog 21 #[ev k, .int .i64 n] w fun e w' => e = .returned (.bool (k == n)) ∧ w = w' := by
  go_enter Try.func21, Try.ntmps21
  go_wp2_with (go_at_call 28; refine (num_any _ _ hk hk').mono ?_; rintro e w' ⟨rfl, rfl⟩)
  go_ret
  exact ⟨rfl, rfl⟩

theorem alive_any (w : World) : Calls Try.prog 8 #[] w fun e w' => e = .returned (.bool true) ∧ w = w' := by
  have hd := div_pos (-7) 2 w (by decide) (by decide) (by decide)
  have hm := mod_any (-7) 2 w (by decide) (by decide) (by decide)
  have HD := Lib.hid hd; have HM := Lib.hid hm; clear hd hm
  go_enter Try.func8, Try.ntmps8
  go_wp2_with (first
    | (go_at_call 18; refine HD.out.mono ?_; rintro e w' ⟨rfl, rfl⟩)
    | (go_at_call 19; refine HM.out.mono ?_; rintro e w' ⟨rfl, rfl⟩))
  go_ret
  exact ⟨rfl, rfl⟩
end Go.Proofs.Yteanpnmgdfflcaa
