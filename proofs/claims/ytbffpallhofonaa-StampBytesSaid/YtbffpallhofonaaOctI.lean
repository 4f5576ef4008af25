/- The walk of OctetsBack. -/
import Derived.Test.YtbffpallhofonaaOctH
namespace Go.Proofs.Ytbffpallhofonaa
open Go.RowKit Go.WideShapes Go.ChangeShapes
set_option linter.unusedVariables false

theorem wb_one (S x : Nat) : wb S [(x : Int)] = be S x := by simp [wb]
theorem wb_cons (S : Nat) (z : Int) (zs : List Int) : wb S (z :: zs) = be S z.toNat ++ wb S zs := rfl
theorem wb_part (S : Nat) (zs : List Int) : ∀ (i : Nat) (h : i < zs.length), ((wb S zs).drop (i * S)).take S = be S zs[i].toNat := by
  induction zs with
  | nil => intro i h; simp at h
  | cons z zs ih =>
    intro i h
    rw [wb_cons]
    cases i with
    | zero => rw [Nat.zero_mul, List.drop_zero, List.take_append_of_le_length (by rw [be_len]; exact Nat.le_refl _), List.take_of_length_le (by rw [be_len]; exact Nat.le_refl _)]; rfl
    | succ i =>
      have e : (be S z.toNat ++ wb S zs).drop ((i + 1) * S) = (wb S zs).drop (i * S) := by
        rw [List.drop_append, List.drop_eq_nil_of_le (by rw [be_len, Nat.succ_mul]; omega), List.nil_append, be_len, Nat.succ_mul, Nat.add_sub_cancel]
      rw [e, ih i (by simpa using h)]
      rfl
theorem wl_wb (S : Nat) (zs : List Int) (hz : ∀ z ∈ zs, 0 ≤ z ∧ z.toNat < 256 ^ S) : wl (wb S zs) S zs.length = zs := by
  refine List.ext_getElem (wl_len _ _ _) fun i h1 h2 => ?_
  rw [wl_at _ _ _ _ h2, wb_part S zs i h2]
  have h := hz zs[i] (List.getElem_mem h2)
  rw [ebv_be_fit h.2]; omega
theorem rm_fits {N S a k : Nat} (hS : S = 1 ∨ S = 2 ∨ S = 4 ∨ S = 8) (h : a + k * S ≤ N) : rm N a k S = 0 := by
  unfold rm
  rw [if_neg (show ¬ ((a : Int) < 0 ∨ (N : Int) < a ∨ (k : Int) < 0) by omega)]
  have : ¬ ((N : Int) - a) / (S : Nat) < k := by rcases hS with rfl | rfl | rfl | rfl <;> simp only [Int.cast_ofNat_Int] <;> omega
  rw [if_neg this]
theorem pm_at (u m v : List UInt8) : pm (u ++ (m ++ v)) (u.length : Int) (m.length : Int) = m := by
  rw [pm_zero (rm_fits (S := 1) (.inl rfl) (by simp))]
  simp

end Go.Proofs.Ytbffpallhofonaa
