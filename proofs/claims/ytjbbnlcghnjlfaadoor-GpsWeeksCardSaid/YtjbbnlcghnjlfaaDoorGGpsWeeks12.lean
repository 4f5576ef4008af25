/- Merged: FigM. -/
import Derived.Test.YtjbbnlcghnjlfaaDoorGGpsWeeks1
import Derived.Lib.ItoaNum
import Derived.Lib.TrimByte
import Derived.Lib.Strings
import Derived.Lib.Repeat
namespace Go.Proofs.YtjbbnlcghnjlfaaDoor
open Go.RowKit Go.Lib

/-- Is a byte a figure? -/
def isd (b : UInt8) : Bool := decide (48 ≤ b.toNat) && decide (b.toNat ≤ 57)
/-- A text's leading figures. -/
def lead : List UInt8 → Nat
  | [] => 0
  | b :: r => if isd b then lead r + 1 else 0
/-- The number of figures. -/
def dv (l : List UInt8) : Nat := l.foldl (fun n b => 10 * n + (b.toNat - 48)) 0
/-- At least so many figures. -/
def pad (w : Nat) (l : List UInt8) : List UInt8 := List.replicate (w - l.length) 48 ++ l

theorem isd_bd {b : UInt8} (h : isd b = true) : 48 ≤ b.toNat ∧ b.toNat ≤ 57 := by unfold isd at h; simpa using h

/-! the figures of a number -/
theorem isd_ofNat {d : Nat} (h : d < 10) : isd (UInt8.ofNat (48 + d)) = true ∧ (UInt8.ofNat (48 + d)).toNat = 48 + d := by
  have : (UInt8.ofNat (48 + d)).toNat = 48 + d := by simp; omega
  refine ⟨?_, this⟩
  unfold isd; rw [this]; simp; omega
theorem dec_isd (u : Nat) : ∀ b ∈ decDigits u, isd b = true := by
  induction u using Nat.strongRecOn with
  | _ u ih =>
    intro b hb
    rw [decDigits] at hb
    split at hb
    · simp only [List.mem_singleton] at hb; subst hb; exact (isd_ofNat (by assumption)).1
    · simp only [List.mem_append, List.mem_singleton] at hb
      rcases hb with hb | rfl
      · exact ih (u / 10) (by omega) b hb
      · exact (isd_ofNat (Nat.mod_lt _ (by decide))).1
theorem dec_pos (u : Nat) : 1 ≤ (decDigits u).length := by rw [decDigits_length]; exact nDigits_pos u
theorem nDig_le : ∀ (k u : Nat), 1 ≤ k → u < 10 ^ k → nDigits u ≤ k
  | 0, _, h, _ => by omega
  | k + 1, u, _, h => by
    by_cases h10 : u < 10
    · rw [nDigits_small h10]; omega
    · rw [nDigits_big h10]
      rcases Nat.eq_zero_or_pos k with rfl | hk
      · simp at h; omega
      · have := nDig_le k (u / 10) hk (by rw [Nat.pow_succ] at h; omega)
        omega
theorem dec_len {k u : Nat} (hk : 1 ≤ k) (h : u < 10 ^ k) : (decDigits u).length ≤ k := by rw [decDigits_length]; exact nDig_le k u hk h
theorem pad_len (w : Nat) (l : List UInt8) : (pad w l).length = max w l.length := by unfold pad; simp; omega
end Go.Proofs.YtjbbnlcghnjlfaaDoor
