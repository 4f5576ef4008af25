/- Merged: EraA. -/
import Derived.Test.YtjbbnlcghnjlfaaDoorGGpsWeeks2
import Derived.Test.YtjbbnlcghnjlfaaDoorGGpsWeeks4
import Derived.Test.YtjbbnlcghnjlfaaDoorGGpsWeeks5
import Derived.Outline
namespace Go.Proofs.YtjbbnlcghnjlfaaDoor
open Go.RowKit
set_option linter.unusedVariables false
set_option linter.unusedSimpArgs false

theorem allowed_any (b : Int) (w : World) :
    Calls Tryd.prog 50 #[.int .i64 b] w fun e w' => e = .returned (.bool (okb b)) ∧ w = w' := by
  by_cases h : 1 ≤ b
  · have hb : decide (1 ≤ b) = true := by simpa using h
    go_enter Tryd.func50, Tryd.ntmps50
    go_wp2
    go_ret
    exact ⟨by simp [okb, h], rfl⟩
  · have hb : decide (1 ≤ b) = false := by simpa using h
    have hk : okb b = false := by unfold okb; rw [hb]; rfl
    go_enter Tryd.func50, Tryd.ntmps50
    go_wp2
    go_ret
    exact ⟨rfl, rfl⟩

/-- A word's lowest bits. -/
theorem mask_is {x : Int} {n : Nat} (h0 : 0 ≤ x) (hx : x < 18446744073709551616) (h2 : n ≤ 62) :
    bits .and .u64 x (IntKind.u64.wrap (IntKind.u64.wrap ((2 : Int) ^ n) - 1)) = x % pw n := by
  have hp := pw_pos n; have hl := pw_62 h2
  have e : (2 : Int) ^ n = pw n := by unfold pw; push_cast; rfl
  rw [e, IntWalk.u64_in (pw n) (by omega), IntWalk.u64_in (pw n - 1) (by omega)]
  have hN : pw n - 1 = ((2 ^ n - 1 : Nat) : Int) := by have := Nat.two_pow_pos n; unfold pw; omega
  obtain ⟨y, rfl⟩ : ∃ y : Nat, x = (y : Int) := ⟨x.toNat, by omega⟩
  rw [hN, u64_and_nat _ _ (by omega) (by unfold pw at hl; have := Nat.two_pow_pos n; omega), Nat.and_two_pow_sub_one_eq_mod]
  unfold pw
  omega

theorem lowest_any (x : Int) (n : Nat) (w : World) (h0 : 0 ≤ x) (hx : x < 18446744073709551616) (h1 : 1 ≤ n) (h2 : n ≤ 62) :
    Calls Tryd.prog 51 #[.int .u64 x, .int .i64 n] w fun e w' => e = .returned (.int .u64 (x % pw n)) ∧ w = w' := by
  have e1 := mask_is h0 hx h2
  go_enter Tryd.func51, Tryd.ntmps51
  go_wp2
  go_ret
  exact ⟨rfl, rfl⟩

theorem foldbits_yes (t : Int) (n : Nat) (w : World) (ht : fits t) (h1 : 1 ≤ n) (h2 : n ≤ 62) :
    Calls Tryd.prog 30 #[.int .i64 t, .int .i64 n] w fun e w' => e = .returned (.tuple #[.int .u64 (fo t n), ev 0]) ∧ w = w' := by
  have HO := Lib.hid (allowed_any n)
  rw [okb_yes h1 h2] at HO
  have e1 : IntKind.u64.wrap t = t % 18446744073709551616 := IntKind.wrap_u64 t
  have HL := Lib.hid (fun w => lowest_any (t % 18446744073709551616) n w (by omega) (by omega) h1 h2)
  rw [mod_mod (by omega)] at HL
  change Hid (∀ w, Calls _ _ _ _ (fun e w' => e = .returned (.int .u64 (fo t n)) ∧ w = w')) at HL
  generalize fo t n = f at *
  have HT := Lib.hid ht
  clear ht
  go_enter Tryd.func30, Tryd.ntmps30
  go_wp2_with first | (go_at_call 50; refine (HO.out _).mono ?_; rintro e w' ⟨rfl, rfl⟩) | (go_at_call 51; refine (HL.out _).mono ?_; rintro e w' ⟨rfl, rfl⟩)
  go_ret2
  exact ⟨rfl, rfl⟩

end Go.Proofs.YtjbbnlcghnjlfaaDoor
