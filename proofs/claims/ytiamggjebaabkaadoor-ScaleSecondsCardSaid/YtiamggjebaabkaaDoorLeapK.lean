/- The statements of layer 10: the fixed fact, Made. -/
import Derived.Test.YtiamggjebaabkaaDoorLeapJ
import Derived.Test.YtiamggjebaabkaaDoorLeapE
import Derived.Test.YtiamggjebaabkaaDoorLeapI
namespace Go.Proofs.YtiamggjebaabkaaDoor
open Go.RowKit
set_option linter.unusedVariables false
set_option linter.unusedSimpArgs false

theorem Rp.set {B : Nat} {w : World} {A : Option Addr} {L : List Rw} (h : Rp B w A L) (k i : Nat) (v : Value) (hk : ∀ b off, A = some ⟨b, off, none⟩ → k ≠ b) : Rp B (w.setCell ⟨k, i, none⟩ v) A L := by
  rcases h with h | ⟨b, off, h1, h2, h4, h3⟩
  · exact .inl h
  · have hne := hk b off h1
    refine .inr ⟨b, off, h1, h2, by simpa using h4, fun j hj => ?_⟩
    rw [World.cell?_setCell_far _ _ _ _ hne, World.cell?_setCell_far _ _ _ _ hne]
    exact h3 j hj
theorem Tb.set {lo : Nat} {w : World} {g : Nat} {L : List Rw} {u e : Int} (h : Tb lo w g L u e) (k i : Nat) (v : Value) (hk : k < lo) : Tb lo (w.setCell ⟨k, i, none⟩ v) g L u e := by
  obtain ⟨h0, A, c, h1, h2, h3, h4⟩ := h
  refine ⟨h0, A, c, ?_, ?_, h3, h4⟩
  · have hne : k ≠ g := by omega
    simp [World.setCell, Array.getElem?_modify, hne, h1]
  · have := h2.set k i v (fun b off hb => by have := h4 b off hb; omega)
    simpa using this
theorem Tb.mono {lo lo' : Nat} {w : World} {g : Nat} {L : List Rw} {u e : Int} (h : Tb lo w g L u e) (hl : lo' ≤ lo) : Tb lo' w g L u e := by
  obtain ⟨h0, A, c, h1, h2, h3, h4⟩ := h
  exact ⟨Nat.le_trans hl h0, A, c, h1, h2, h3, fun b off hb => Nat.le_trans hl (h4 b off hb)⟩

def exL : List Rw := [⟨730, 10⟩, ⟨912, 11⟩]
theorem dt730 : Dt 730 1972 1 1 := ⟨by unfold isy; omega, by decide, by decide, by decide, by decide, by decide⟩
theorem dt912 : Dt 912 1972 7 1 := ⟨by unfold isy; omega, by decide, by decide, by decide, by decide, by decide⟩
theorem two_of {j : Nat} (h : j < 2) : j = 0 ∨ j = 1 := by omega
theorem exL_ok : lkE exL 5 9 = 0 := by
  refine lk_0 ⟨by decide, by decide⟩ (fun j hj => ?_) (fun j hj => ?_) (by decide) (by decide) (fun j hj => ?_)
  · rcases two_of hj with rfl | rfl <;> decide
  · rcases two_of hj with rfl | rfl
    · exact w2_no dt730 (by decide) (by decide)
    · exact w2_no dt912 (by decide) (by decide)
  · obtain rfl : j = 0 := by have : j + 1 < 2 := hj; omega
    decide
theorem exL_lp : lpN exL 911 = 1 := by decide

end Go.Proofs.YtiamggjebaabkaaDoor
