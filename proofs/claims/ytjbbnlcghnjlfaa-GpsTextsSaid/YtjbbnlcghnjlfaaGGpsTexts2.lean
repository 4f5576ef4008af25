/- Merged: EraM, GpsM. -/
import Derived.Test.YtjbbnlcghnjlfaaGGpsTexts1
namespace Go.Proofs.Ytjbbnlcghnjlfaa
open Go.RowKit

/-- 2 to the power n. -/
def pw (n : Nat) : Int := ((2 ^ n : Nat) : Int)
theorem pw_pos (n : Nat) : 0 < pw n := by unfold pw; have := Nat.two_pow_pos n; omega
theorem pw_le {n m : Nat} (h : n ≤ m) : pw n ≤ pw m := by
  unfold pw
  have := Nat.pow_le_pow_right (n := 2) (by omega) h
  omega
theorem pw_62 {n : Nat} (h : n ≤ 62) : pw n ≤ 4611686018427387904 := by
  have := pw_le h
  have e : pw 62 = 4611686018427387904 := rfl
  omega
theorem pw_dvd {n m : Nat} (h : n ≤ m) : pw n ∣ pw m := by
  unfold pw
  exact Int.natCast_dvd_natCast.mpr (Nat.pow_dvd_pow 2 h)
theorem pw_64 : pw 64 = 18446744073709551616 := rfl
/-- Half of it. -/
def hf (n : Nat) : Int := pw (n - 1)
/-- May a folded number have so many bits? -/
def okb (b : Int) : Bool := decide (1 ≤ b) && decide (b ≤ 62)
theorem okb_yes {n : Nat} (h1 : 1 ≤ n) (h2 : n ≤ 62) : okb (n : Int) = true := by
  unfold okb; simp; omega
/-- A number folded to n bits. -/
def fo (t : Int) (n : Nat) : Int := t % pw n
theorem fo_bd (t : Int) (n : Nat) : 0 ≤ fo t n ∧ fo t n < pw n := by
  have := pw_pos n
  exact ⟨Int.emod_nonneg _ (by omega), Int.emod_lt_of_pos _ (by omega)⟩
/-! words -/
theorem mod_mod {t : Int} {n : Nat} (h : n ≤ 64) : t % 18446744073709551616 % pw n = t % pw n := by
  rw [← pw_64]; exact Int.emod_emod_of_dvd t (pw_dvd h)
end Go.Proofs.Ytjbbnlcghnjlfaa

namespace Go.Proofs.Ytjbbnlcghnjlfaa
open Go.RowKit

/-- A moment's week, the second of it, the error's number. -/
def owE (t : Int) : Int := bad (t - 315964819)
def owN (t : Int) : Int := if fits (t - 315964819) then (t - 315964819) / 604800 else 0
def owS (t : Int) : Int := if fits (t - 315964819) then (t - 315964819) % 604800 else 0
/-- A week's second as a moment. -/
def taE (w s : Int) : Int := if s < 0 ∨ 604799 < s then 1 else if fits (w * 604800) ∧ fits (w * 604800 + s) ∧ fits (w * 604800 + s + 315964819) then 0 else 5
def taN (w s : Int) : Int := if taE w s = 0 then w * 604800 + s + 315964819 else 0
theorem ow_yes {t : Int} (h : fits (t - 315964819)) : owE t = 0 ∧ owN t = (t - 315964819) / 604800 ∧ owS t = (t - 315964819) % 604800 := ⟨bad_fit h, if_pos h, if_pos h⟩
theorem ow_no {t : Int} (h : ¬ fits (t - 315964819)) : owE t = 5 ∧ owN t = 0 ∧ owS t = 0 := ⟨bad_no h, if_neg h, if_neg h⟩
theorem ta_range {w s : Int} (h : s < 0 ∨ 604799 < s) : taE w s = 1 ∧ taN w s = 0 := by
  have e : taE w s = 1 := if_pos h
  exact ⟨e, by unfold taN; rw [e]; rfl⟩
theorem ta_over {w s : Int} (h : ¬ (s < 0 ∨ 604799 < s)) (h2 : ¬ (fits (w * 604800) ∧ fits (w * 604800 + s) ∧ fits (w * 604800 + s + 315964819))) : taE w s = 5 ∧ taN w s = 0 := by
  have e : taE w s = 5 := by unfold taE; rw [if_neg h, if_neg h2]
  exact ⟨e, by unfold taN; rw [e]; rfl⟩
theorem ta_yes {w s : Int} (h : ¬ (s < 0 ∨ 604799 < s)) (h1 : fits (w * 604800)) (h2 : fits (w * 604800 + s)) (h3 : fits (w * 604800 + s + 315964819)) : taE w s = 0 ∧ taN w s = w * 604800 + s + 315964819 := by
  have e : taE w s = 0 := by unfold taE; rw [if_neg h, if_pos ⟨h1, h2, h3⟩]
  exact ⟨e, by unfold taN; rw [if_pos e]⟩
theorem taE_lo (w s : Int) : 0 ≤ taE w s ∧ taE w s < 100 := by
  unfold taE; split
  · decide
  · split <;> decide
theorem pw_10 : pw 10 = 1024 := rfl
/-! there and back -/
end Go.Proofs.Ytjbbnlcghnjlfaa
