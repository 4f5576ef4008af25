/- Get, Cut, Set; the document's Part and Get. (Written by gen4.py.) -/
import Derived.Test.YtbffpallhofonaaOctD
namespace Go.Proofs.Ytbffpallhofonaa
open Go.RowKit Go.WideShapes Go.ChangeShapes
set_option linter.unusedVariables false

/-- The part of bytes that holds so many (nothing where it isn't there). -/
def pm (l : List UInt8) (at_ many : Int) : List UInt8 := if rm l.length at_ many 1 = 0 then (l.drop at_.toNat).take many.toNat else []
/-- The number of so many bytes at a place (0 where they aren't there). -/
def gv (l : List UInt8) (at_ : Int) (S : Nat) : Nat := ebv (pm l at_ S)
theorem rm_zero {N S : Nat} {at_ many : Int} (h : rm N at_ many S = 0) : 0 ≤ at_ ∧ at_ ≤ N ∧ 0 ≤ many ∧ many ≤ (N - at_) / S := by
  unfold rm at h
  split at h
  · cases h
  · split at h
    · cases h
    · omega
theorem rm_zero1 {N : Nat} {at_ many : Int} (h : rm N at_ many 1 = 0) : ∃ a m : Nat, at_ = a ∧ many = m ∧ a + m ≤ N := by
  obtain ⟨h1, h2, h3, h4⟩ := rm_zero h
  simp only [Int.cast_ofNat_Int, Int.ediv_one] at h4
  exact ⟨at_.toNat, many.toNat, by omega, by omega, by omega⟩
theorem rm_four {N : Nat} {at_ many : Int} (h : rm N at_ many 1 ≠ 0) (h1 : 0 ≤ at_) (h2 : at_ ≤ N) (h3 : 0 ≤ many) : rm N at_ many 1 = 4 ∧ (N : Int) - at_ < many := by
  unfold rm at h ⊢
  rw [if_neg (by omega)] at h ⊢
  by_cases g : ((N : Int) - at_) / (1 : Nat) < many
  · rw [if_pos g]
    simp only [Int.cast_ofNat_Int, Int.ediv_one] at g
    exact ⟨rfl, g⟩
  · rw [if_neg g] at h; exact absurd rfl h
theorem rm_swap {N S : Nat} {at_ : Int} (hS : S = 1 ∨ S = 2 ∨ S = 4 ∨ S = 8) : rm N at_ S 1 = rm N at_ 1 S := by
  unfold rm
  by_cases h : at_ < 0 ∨ (N : Int) < at_
  · rw [if_pos (show at_ < 0 ∨ (N : Int) < at_ ∨ (S : Int) < 0 by omega), if_pos (show at_ < 0 ∨ (N : Int) < at_ ∨ (1 : Int) < 0 by omega)]
  · rw [if_neg (show ¬ (at_ < 0 ∨ (N : Int) < at_ ∨ (S : Int) < 0) by omega), if_neg (show ¬ (at_ < 0 ∨ (N : Int) < at_ ∨ (1 : Int) < 0) by omega)]
    have e : ((N : Int) - at_) / (1 : Nat) < (S : Int) ↔ ((N : Int) - at_) / (S : Nat) < 1 := by
      simp only [Int.cast_ofNat_Int, Int.ediv_one]
      rcases hS with rfl | rfl | rfl | rfl <;> simp only [Int.cast_ofNat_Int] <;> omega
    by_cases g : ((N : Int) - at_) / (1 : Nat) < (S : Int)
    · rw [if_pos g, if_pos (e.1 g)]
    · rw [if_neg g, if_neg (fun q => g (e.2 q))]
theorem rm_one {N S : Nat} {at_ : Int} (hS : S = 1 ∨ S = 2 ∨ S = 4 ∨ S = 8) (h : rm N at_ 1 S = 0) : ∃ a : Nat, at_ = a ∧ a + S ≤ N := by
  rw [← rm_swap hS] at h
  obtain ⟨a, m, h1, h2, h3⟩ := rm_zero1 h
  exact ⟨a, h1, by omega⟩
theorem pm_zero {l : List UInt8} {a m : Nat} (h : rm l.length a m 1 = 0) : pm l a m = (l.drop a).take m := by unfold pm; rw [if_pos h]; rfl
theorem pm_not {l : List UInt8} {at_ many : Int} (h : rm l.length at_ many 1 ≠ 0) : pm l at_ many = [] := by unfold pm; rw [if_neg h]
theorem pm_len {l : List UInt8} {at_ : Int} {S : Nat} : (pm l at_ S).length ≤ S := by
  unfold pm; split
  · simp; omega
  · simp

theorem part_lo {w : World} {A : Option Addr} {l : List UInt8} {c lo : Nat} (h : Rb w A l) (hA : A = none → c = 0) (hc : l.length ≤ c) (h1 : lo ≤ l.length) :
    ∃ A' c' m, m = l.drop lo ∧ (∀ w', (Instr.slice 56 (.slice A l.length c) (some (.int .i64 (lo : Int))) none none).run Try.prog w' = .ok (.slice A' m.length c') w') ∧
      Rb w A' m ∧ (A' = none → c' = 0) ∧ m.length ≤ c' ∧ c' ≤ c ∧ (lo < c → A' = A.map (·.add lo)) := by
  obtain ⟨A', c', m, hm, hr, h2⟩ := part_lh h hA hc h1 (Nat.le_refl _)
  refine ⟨A', c', m, by rw [hm]; exact List.take_of_length_le (by simp), fun w' => ?_, h2⟩
  have := hr w'
  rw [run_slice_lh w' 56 A l.length c bslice .i64 .i64 lo l.length (by omega) (by omega) (by omega)] at this
  rw [run_slice_l w' 56 A l.length c bslice .i64 lo (by omega) (by omega), ← this]
  simp
theorem part_hi {w : World} {A : Option Addr} {l : List UInt8} {c hi : Nat} (h : Rb w A l) (hA : A = none → c = 0) (hc : l.length ≤ c) (h1 : hi ≤ l.length) :
    ∃ A' c' m, m = l.take hi ∧ (∀ w', (Instr.slice 56 (.slice A l.length c) none (some (.int .i64 (hi : Int))) none).run Try.prog w' = .ok (.slice A' m.length c') w') ∧
      Rb w A' m ∧ (A' = none → c' = 0) ∧ m.length ≤ c' ∧ c' ≤ c := by
  obtain ⟨A', c', m, hm, hr, h2, h3, h4, h5, _⟩ := part_lh (lo := 0) h hA hc (Nat.zero_le _) h1
  refine ⟨A', c', m, by rw [hm]; simp, fun w' => ?_, h2, h3, h4, h5⟩
  have := hr w'
  rw [run_slice_lh w' 56 A l.length c bslice .i64 .i64 (0 : Nat) hi (by omega) (by omega) (by omega)] at this
  rw [run_slice_h w' 56 A l.length c bslice .i64 hi (by omega) (by omega), ← this]
  simp

end Go.Proofs.Ytbffpallhofonaa
