/- The document's figures: Fraction, Big. -/
import Derived.Test.YtmfjfbofkkbmiaaDoorRefA
import Derived.Test.YtmfjfbofkkbmiaaDoorBigH
import Derived.Deep.DeepCutAuto
import Derived.Deep.CutRange
import Derived.Deep.RegionHeld3
import Derived.Deep.RegionWith
namespace Go.Proofs.YtmfjfbofkkbmiaaDoor
open Go.RowKit
set_option linter.unusedVariables false

theorem fr_short {l : List UInt8} (h : l.length ≤ 9) : whE l 1 9 mx = if l.length = 0 ∨ lead l < l.length then 2 else 0 := by
  have hle := lead_le l
  have hk : tkk l 9 = lead l := by unfold tkk; show min (lead l) 9 = _; omega
  have hR : tkR 1 9 = false := rfl
  have hT : tkE l 1 9 mx = if lead l < 1 then 2 else 0 := by
    unfold tkE; rw [hR, hk]
    by_cases h1 : lead l < 1
    · rw [if_pos h1, if_neg (by decide), if_pos (by omega)]
    · rw [if_neg h1, if_neg (by decide), if_neg (by omega)]
      rcases vl_E (l.take (lead l)) mx with ⟨_, _, h3⟩ | ⟨h3, _, _⟩
      · exfalso
        have h4 := dv_lt (l := l.take (lead l)) (lead_mem (Nat.le_refl _))
        have h5 : 10 ^ (l.take (lead l)).length ≤ 10 ^ 9 := Nat.pow_le_pow_right (by decide) (by rw [List.length_take]; omega)
        have h6 : 10 ^ 9 ≤ mx := by decide
        omega
      · exact h3
  unfold whE tkK
  rw [hT, hk]
  by_cases h1 : lead l < 1
  · rw [if_pos h1, if_neg (by decide), if_pos (by omega)]
  · rw [if_neg h1, if_pos rfl]
    by_cases h2 : lead l < l.length
    · rw [if_pos rfl, if_pos h2, if_pos (.inr h2)]
    · rw [if_pos rfl, if_neg h2, if_neg (by omega)]

/-- What a figure at a place counts. -/
def un (i : Nat) : Nat := 10 ^ (9 - i) / 10
theorem un_step {i : Nat} (h : i < 9) : un (i + 1) = un i / 10 ∧ un i = 10 ^ (9 - (i + 1)) ∧ un i ≤ 100000000 := by
  unfold un
  rw [show 9 - i = (9 - (i + 1)) + 1 by omega, Nat.pow_succ, Nat.mul_div_cancel _ (by decide)]
  refine ⟨rfl, rfl, ?_⟩
  show 10 ^ (9 - (i + 1)) ≤ 10 ^ 8
  exact Nat.pow_le_pow_right (by decide) (by omega)

end Go.Proofs.YtmfjfbofkkbmiaaDoor
