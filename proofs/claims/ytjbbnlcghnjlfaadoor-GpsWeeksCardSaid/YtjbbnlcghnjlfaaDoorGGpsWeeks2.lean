/- Merged: EraM. -/
import Derived.Test.YtjbbnlcghnjlfaaDoorGGpsWeeks1
namespace Go.Proofs.YtjbbnlcghnjlfaaDoor
open Go.RowKit

/-- 2 to the power n. -/
def pw (n : Nat) : Int := ((2 ^ n : Nat) : Int)
theorem pw_pos (n : Nat) : 0 < pw n := by unfold pw; have := Nat.two_pow_pos n; omega
theorem pw_succ (n : Nat) : pw (n + 1) = 2 * pw n := by unfold pw; rw [Nat.pow_succ]; omega
theorem pw_le {n m : Nat} (h : n ≤ m) : pw n ≤ pw m := by
  unfold pw
  have := Nat.pow_le_pow_right (n := 2) (by omega) h
  omega
theorem pw_62 {n : Nat} (h : n ≤ 62) : pw n ≤ 4611686018427387904 := by
  have := pw_le h
  have e : pw 62 = 4611686018427387904 := rfl
  omega
theorem pw_dvd {n m : Nat} (h : n ≤ m) : pw n ∣ pw m := by
  unfold pw
  exact Int.natCast_dvd_natCast.mpr (Nat.pow_dvd_pow 2 h)
theorem pw_64 : pw 64 = 18446744073709551616 := rfl
/-- Half of it. -/
def hf (n : Nat) : Int := pw (n - 1)
/-- May a folded number have so many bits? -/
def okb (b : Int) : Bool := decide (1 ≤ b) && decide (b ≤ 62)
theorem okb_yes {n : Nat} (h1 : 1 ≤ n) (h2 : n ≤ 62) : okb (n : Int) = true := by
  unfold okb; simp; omega
/-- A number folded to n bits. -/
def fo (t : Int) (n : Nat) : Int := t % pw n
theorem fo_bd (t : Int) (n : Nat) : 0 ≤ fo t n ∧ fo t n < pw n := by
  have := pw_pos n
  exact ⟨Int.emod_nonneg _ (by omega), Int.emod_lt_of_pos _ (by omega)⟩
/-! words -/
theorem mod_mod {t : Int} {n : Nat} (h : n ≤ 64) : t % 18446744073709551616 % pw n = t % pw n := by
  rw [← pw_64]; exact Int.emod_emod_of_dvd t (pw_dvd h)
end Go.Proofs.YtjbbnlcghnjlfaaDoor
