/- Merged: GpsM. -/
import Derived.Test.YtjbbnlcghnjlfaaDoorGGpsWeeks2
namespace Go.Proofs.YtjbbnlcghnjlfaaDoor
open Go.RowKit

/-- A moment's week, the second of it, the error's number. -/
def owE (t : Int) : Int := bad (t - 315964819)
def owN (t : Int) : Int := if fits (t - 315964819) then (t - 315964819) / 604800 else 0
def owS (t : Int) : Int := if fits (t - 315964819) then (t - 315964819) % 604800 else 0
/-- A week's second as a moment. -/
def taE (w s : Int) : Int := if s < 0 ∨ 604799 < s then 1 else if fits (w * 604800) ∧ fits (w * 604800 + s) ∧ fits (w * 604800 + s + 315964819) then 0 else 5
def taN (w s : Int) : Int := if taE w s = 0 then w * 604800 + s + 315964819 else 0
theorem ow_yes {t : Int} (h : fits (t - 315964819)) : owE t = 0 ∧ owN t = (t - 315964819) / 604800 ∧ owS t = (t - 315964819) % 604800 := ⟨bad_fit h, if_pos h, if_pos h⟩
theorem ow_no {t : Int} (h : ¬ fits (t - 315964819)) : owE t = 5 ∧ owN t = 0 ∧ owS t = 0 := ⟨bad_no h, if_neg h, if_neg h⟩
theorem owE_or (t : Int) : owE t = 0 ∨ owE t = 5 := by unfold owE bad; split <;> simp
theorem ow_bd (t : Int) : -15250284452472 ≤ owN t ∧ owN t ≤ 15250284452471 ∧ 0 ≤ owS t ∧ owS t ≤ 604799 := by
  by_cases h : fits (t - 315964819)
  · obtain ⟨_, e1, e2⟩ := ow_yes h
    rw [e1, e2]
    unfold fits at h
    omega
  · obtain ⟨_, e1, e2⟩ := ow_no h
    rw [e1, e2]
    omega
/-- The quotient toward 0, mended. -/
theorem ow_trunc {s : Int} : (s.tmod 604800 < 0 ∧ s / 604800 = s.tdiv 604800 - 1 ∧ s % 604800 = s.tmod 604800 + 604800) ∨ (¬ s.tmod 604800 < 0 ∧ s / 604800 = s.tdiv 604800 ∧ s % 604800 = s.tmod 604800) := by
  have h1 := tdm s 604800
  have h2 := tmod_sgn s 604800 (by decide)
  have h3 := Int.mul_ediv_add_emod s 604800
  have h4 := Int.emod_nonneg s (b := 604800) (by decide)
  have h5 := Int.emod_lt_of_pos s (b := 604800) (by decide)
  omega
theorem owS_fits (t : Int) : fits (owS t) := by have := ow_bd t; unfold fits; omega
theorem owN_fits (t : Int) : fits (owN t) := by have := ow_bd t; unfold fits; omega

theorem ta_range {w s : Int} (h : s < 0 ∨ 604799 < s) : taE w s = 1 ∧ taN w s = 0 := by
  have e : taE w s = 1 := if_pos h
  exact ⟨e, by unfold taN; rw [e]; rfl⟩
theorem ta_over {w s : Int} (h : ¬ (s < 0 ∨ 604799 < s)) (h2 : ¬ (fits (w * 604800) ∧ fits (w * 604800 + s) ∧ fits (w * 604800 + s + 315964819))) : taE w s = 5 ∧ taN w s = 0 := by
  have e : taE w s = 5 := by unfold taE; rw [if_neg h, if_neg h2]
  exact ⟨e, by unfold taN; rw [e]; rfl⟩
theorem ta_yes {w s : Int} (h : ¬ (s < 0 ∨ 604799 < s)) (h1 : fits (w * 604800)) (h2 : fits (w * 604800 + s)) (h3 : fits (w * 604800 + s + 315964819)) : taE w s = 0 ∧ taN w s = w * 604800 + s + 315964819 := by
  have e : taE w s = 0 := by unfold taE; rw [if_neg h, if_pos ⟨h1, h2, h3⟩]
  exact ⟨e, by unfold taN; rw [if_pos e]⟩
theorem taE_lo (w s : Int) : 0 ≤ taE w s ∧ taE w s < 100 := by
  unfold taE; split
  · decide
  · split <;> decide
theorem pw_10 : pw 10 = 1024 := rfl
/-! there and back -/
end Go.Proofs.YtjbbnlcghnjlfaaDoor
