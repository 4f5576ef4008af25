/- NumRing. -/
import Derived.Test.YtbffpallhofonaaNumB
import Derived.Outline
namespace Go.Proofs.Ytbffpallhofonaa
open Go.RowKit

/-- Div and Mod, of any two numbers: what they answer, and what follows from no error. -/
def dq (a b : Int) : Int := if b = 0 then 0 else sm (a.fdiv b)
def de (a b : Int) : Int := if b = 0 then 1 else bad (a.fdiv b)
def mr (a b : Int) : Int := if b = 0 then 0 else a.fmod b
def me (b : Int) : Int := if b = 0 then 1 else 0
theorem dq_fit (a b : Int) : -9223372036854775808 ≤ dq a b ∧ dq a b ≤ 9223372036854775807 := by
  unfold dq; split
  · decide
  · exact fits_sm _

/-- The last sentence: the number is b times the quotient and the rest. -/
theorem fdiv_over {a b : Int} (ha : fits a) (hb : fits b) (h0 : b ≠ 0) (h : ¬ fits (a.fdiv b)) : a = -9223372036854775808 ∧ b = -1 := by
  by_cases h1 : b = -1
  · subst h1
    have hq : a.fdiv (-1) = -a := (fdiv_is (q := -a) (r := 0) (by omega) (by omega)).1
    rw [hq] at h
    unfold fits at *
    omega
  · exfalso
    by_cases hs : a.tmod b = 0 ∨ (a < 0 ↔ b < 0)
    · rw [(fdiv_same h0 hs).1] at h; exact h (tdiv_fit ha h0 h1)
    · have hr : a.tmod b ≠ 0 := fun e => hs (.inl e)
      rw [(fdiv_other h0 hr (fun e => hs (.inr e))).1] at h; exact h (tdiv_lo ha h0 hr)
theorem last_no {a b : Int} (ha : fits a) (hb : fits b) (h : (de a b == 0) = false ∨ (me b == 0) = false) : b = 0 ∨ (b ≠ 0 ∧ a = -9223372036854775808 ∧ b = -1) := by
  by_cases h0 : b = 0
  · exact .inl h0
  · refine .inr ⟨h0, ?_⟩
    rcases h with h | h
    · rw [show de a b = bad (a.fdiv b) from if_neg h0] at h
      by_cases hf : fits (a.fdiv b)
      · rw [bad_fit hf] at h; simp at h
      · exact fdiv_over ha hb h0 hf
    · rw [show me b = 0 from if_neg h0] at h; simp at h
theorem last_yes {a b : Int} (h : (de a b == 0) = true) (h' : (me b == 0) = true) : b ≠ 0 ∧ b * dq a b + mr a b = a ∧ (mr a b = 0 ∨ (mr a b ≠ 0 ∧ (mr a b < 0 ↔ b < 0))) := by
  have h0 : b ≠ 0 := by
    rintro rfl
    simp [de] at h
  refine ⟨h0, ?_⟩
  rw [show de a b = bad (a.fdiv b) from if_neg h0] at h
  rw [show dq a b = sm (a.fdiv b) from if_neg h0, show mr a b = a.fmod b from if_neg h0]
  by_cases hf : fits (a.fdiv b)
  · rw [sm_fit hf]
    refine ⟨fdm a b, ?_⟩
    rcases (by omega : 0 < b ∨ b < 0) with hb | hb
    · have := fmod_pos (a := a) hb; omega
    · have := fmod_negb (a := a) hb; omega
  · rw [bad_no hf] at h; exact absurd h (by decide)
theorem wrap_last {a b q r : Int} (h : b * q + r = a) (ha : fits a) : wrap64 (wrap64 (b * q) + r) = a := by
  subst h
  generalize b * q = p at *
  unfold fits at ha
  unfold wrap64
  omega
end Go.Proofs.Ytbffpallhofonaa
