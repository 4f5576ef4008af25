/- Merged: WeekD. -/
import Derived.Test.YtjbbnlcghnjlfaaGGpsTexts40
import Derived.Test.YtjbbnlcghnjlfaaGGpsTexts46
namespace Go.Proofs.Ytjbbnlcghnjlfaa
open Go.RowKit
set_option linter.unusedVariables false

/-- A byte of a text, as the walk reads it. -/
theorem byte_is {X : ByteArray} {i : Nat} (h : i < X.size) (c : UInt8) : (X.data.toList[i]? = some c) ↔ ((X[i].toNat : Int) == (c.toNat : Int)) = true := by
  have e : X.data.toList[i]? = some X[i] := by
    rw [Array.getElem?_toList]; exact Array.getElem?_eq_getElem (by simpa using h)
  rw [e, Option.some.injEq, beq_iff_eq]
  constructor
  · rintro rfl; rfl
  · intro h; exact UInt8.toNat_inj.1 (by omega)
theorem byte_no {X : ByteArray} {i : Nat} (h : i < X.size) (c : UInt8) (hn : ¬ X.data.toList[i]? = some c) : ((X[i].toNat : Int) == (c.toNat : Int)) = false := by
  rw [byte_is h c] at hn; simpa using hn
/-- The text behind its sign. -/
theorem sign_is (s : ByteArray) : (s.size = 0 ∧ sig s.data.toList = 0 ∧ bd s.data.toList = s.data.toList) ∨
    (∃ h : 0 < s.size, ((((s[0].toNat : Int) == 45) = true ∧ sig s.data.toList = 1 ∧ bd s.data.toList = (s.extract 1 s.size).data.toList) ∨
      (((s[0].toNat : Int) == 45) = false ∧ sig s.data.toList = 0 ∧ bd s.data.toList = s.data.toList))) := by
  have e0 : s.data.toList.head? = s.data.toList[0]? := by rw [List.head?_eq_getElem?]
  rcases Nat.eq_zero_or_pos s.size with h | h
  · have e : s.data.toList = [] := List.eq_nil_of_length_eq_zero (by simpa using h)
    exact Or.inl ⟨h, by rw [e]; rfl, by rw [e]; rfl⟩
  · refine Or.inr ⟨h, ?_⟩
    by_cases c : s.data.toList[0]? = some 45
    · have g : sig s.data.toList = 1 := by unfold sig; rw [e0, if_pos c]
      exact Or.inl ⟨(byte_is h 45).1 c, g, by unfold bd; rw [g, Lib.extract_from]⟩
    · have g : sig s.data.toList = 0 := by unfold sig; rw [e0, if_neg c]
      exact Or.inr ⟨byte_no h 45 c, g, by unfold bd; rw [g, List.drop_zero]⟩
end Go.Proofs.Ytjbbnlcghnjlfaa
