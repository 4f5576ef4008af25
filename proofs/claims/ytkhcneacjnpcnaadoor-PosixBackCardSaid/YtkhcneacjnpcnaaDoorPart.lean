/- Parts of slices of bytes. -/
import Derived.Test.YtkhcneacjnpcnaaDoorOwn
import Derived.Deep.OwnRows
namespace Go.Proofs.YtkhcneacjnpcnaaDoor
open Go.RowKit Go.WideShapes Go.ChangeShapes
set_option linter.unusedVariables false

theorem bsize : ∀ w : World, (sizeOf (Tryd.prog.elem 95)).run Tryd.prog w = .ok 1 w := fun w => by kernel_rfl
theorem bslice : Tryd.prog.underlying 95 = some (.slice (Tryd.prog.elem 95)) := by kernel_rfl
theorem map_add_zero (A : Option Addr) : A.map (·.add 0) = A := by
  cases A with
  | none => rfl
  | some a => simp [Addr.add]

/-- The part from lo to hi of a slice that reads as bytes. -/
theorem part_lh {w : World} {A : Option Addr} {l : List UInt8} {c lo hi : Nat} (h : Rb w A l) (hA : A = none → c = 0) (hc : l.length ≤ c) (h1 : lo ≤ hi) (h2 : hi ≤ l.length) :
    ∃ A' c' m, m = (l.drop lo).take (hi - lo) ∧ (∀ w', (Instr.slice 95 (.slice A l.length c) (some (.int .i64 (lo : Int))) (some (.int .i64 (hi : Int))) none).run Tryd.prog w' = .ok (.slice A' m.length c') w') ∧
      Rb w A' m ∧ (A' = none → c' = 0) ∧ m.length ≤ c' ∧ c' ≤ c ∧ (lo < c → A' = A.map (·.add lo)) := by
  have hm : ((l.drop lo).take (hi - lo)).length = hi - lo := by simp; omega
  refine ⟨if c = lo then A else A.map (·.add lo), c - lo, _, rfl, fun w' => ?_, ?_, ?_, by omega, by omega, fun h => if_neg (by omega)⟩
  · rw [run_slice_lh w' 95 A l.length c bslice .i64 .i64 lo hi (by omega) (by omega) (by omega), bsize]
    simp only [Result.andThen, sliced, Int.toNat_natCast, Nat.mul_one, hm]
  · by_cases hcl : c = lo
    · rw [if_pos hcl]
      have e : (l.drop lo).take (hi - lo) = [] := List.eq_nil_of_length_eq_zero (by omega)
      rw [e]; exact Rb.nil _
    · rw [if_neg hcl]
      cases A with
      | none =>
        rw [h.none_]
        simp only [List.drop_nil, List.take_nil]
        exact Rb.nil _
      | some a =>
        rcases h.2 with h0 | ⟨b, off, e, _⟩
        · have e : l = [] := by unfold nums at h0; simpa using h0
          rw [e]
          simp only [List.drop_nil, List.take_nil]
          exact Rb.nil _
        · injection e with e
          subst e
          have e2 : (⟨b, off, none⟩ : Addr).add lo = ⟨b, off + lo, none⟩ := add_plain ..
          rw [Option.map_some, e2]
          exact (h.drop_ lo).take_ _
  · split
    · intro e; have := hA e; omega
    · intro e
      have : A = none := by simpa using e
      have := hA this; omega
end Go.Proofs.YtkhcneacjnpcnaaDoor
