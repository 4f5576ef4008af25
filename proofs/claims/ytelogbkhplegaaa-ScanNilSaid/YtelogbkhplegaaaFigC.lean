/- Package figures: Put, PutFraction, Short. -/
import Derived.Test.YtelogbkhplegaaaFigB
import Derived.Lib.AppendIntMem
namespace Go.Proofs.Ytelogbkhplegaaa
open Go.RowKit
set_option linter.unusedVariables false

/-- The library's table of powers of ten. -/
def Tab (w : World) : Prop := Lib.TabIs Try.prog w "internal/strconv.uint64pow10" .u64 Lib.pow10Tab
def ptE (width : Int) : Int := if width < 0 ∨ 20 < width then 1 else 0
def ptL (n width : Int) : List UInt8 :=
  if width < 0 ∨ 20 < width then [] else if n < 0 then 45 :: pad width.toNat (Lib.decDigits n.natAbs) else pad width.toNat (Lib.decDigits n.natAbs)

theorem bs_append (a b : List UInt8) : (⟨a.toArray⟩ : ByteArray) ++ ⟨b.toArray⟩ = ⟨(a ++ b).toArray⟩ := by
  apply ByteArray.ext; simp
theorem dec_head (u : Nat) : Lib.hasPrefix (Lib.decDigits u) [45] = false := by
  have h := dec_isd u
  cases hd : Lib.decDigits u with
  | nil => rfl
  | cons b r =>
    rw [hd] at h
    have := isd_bd (h b (by simp))
    simp only [Lib.hasPrefix, List.isPrefixOf, Bool.and_true]
    apply beq_false_of_ne
    rintro rfl
    revert this; decide
theorem cut_itoa (n : Int) : Lib.trimPrefix (Lib.itoa n) [45] = Lib.decDigits n.natAbs ∧ Lib.hasPrefix (Lib.itoa n) [45] = decide (n < 0) := by
  by_cases h : n < 0
  · have e : Lib.itoa n = 45 :: Lib.decDigits n.natAbs := by unfold Lib.itoa; rw [if_pos h]
    have hp : Lib.hasPrefix (Lib.itoa n) [45] = true := by rw [e]; simp [Lib.hasPrefix, List.isPrefixOf]
    refine ⟨?_, by rw [hp]; simp [h]⟩
    unfold Lib.trimPrefix; rw [hp, e]; rfl
  · have e : Lib.itoa n = Lib.decDigits n.natAbs := by unfold Lib.itoa; rw [if_neg h]; congr 1; omega
    have hp : Lib.hasPrefix (Lib.itoa n) [45] = false := by rw [e]; exact dec_head _
    refine ⟨?_, by rw [hp]; simp [h]⟩
    unfold Lib.trimPrefix; rw [hp, e]; rfl
theorem repeat_one (c : UInt8) : ∀ k, Lib.repeatL [c] k = List.replicate k c
  | 0 => rfl
  | k + 1 => by rw [Lib.repeatL, repeat_one c k, List.replicate_succ]; rfl
/-! ### PutFraction, Short -/
/-- Isn't it a fraction? -/
def nf (nano : Int) : Prop := nano < 0 ∨ 999999999 < nano
instance (n : Int) : Decidable (nf n) := by unfold nf; infer_instance
/-- A fraction's nine figures. -/
def nine (nano : Int) : List UInt8 := pad 9 (Lib.decDigits nano.natAbs)
def pfE (nano many : Int) : Int := if nf nano ∨ many < 0 ∨ 9 < many then 1 else 0
def pfL (nano many : Int) : List UInt8 := if nf nano ∨ many < 0 ∨ 9 < many then [] else (nine nano).take many.toNat
def shE (nano : Int) : Int := if nf nano then 1 else 0
def shL (nano : Int) : List UInt8 := if nf nano then [] else Lib.trimRightB (nine nano) 48
theorem nine_len {nano : Int} (h : ¬ nf nano) : (nine nano).length = 9 := by
  unfold nf at h
  unfold nine; rw [pad_len]
  have := dec_len (k := 9) (u := nano.natAbs) (by decide) (by omega)
  omega
theorem nine_isd (nano : Int) : ∀ b ∈ nine nano, isd b = true := pad_isd (dec_isd _)
theorem nine_dv {nano : Int} (h : ¬ nf nano) : (dv (nine nano) : Int) = nano := by
  unfold nine; rw [dv_pad, dec_dv]; unfold nf at h; omega

end Go.Proofs.Ytelogbkhplegaaa
