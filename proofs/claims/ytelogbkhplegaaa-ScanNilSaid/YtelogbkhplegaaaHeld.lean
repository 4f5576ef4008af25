/- What a region that draws keeps in sight: cells of a world, and that nothing below has turned. -/
import Derived.Test.YtelogbkhplegaaaErr
import Derived.Below
namespace Go.Proofs.Ytelogbkhplegaaa
open Go.RowKit
theorem heldd4 {W0 w' : World} {p1 p2 p3 p4 : Addr} {x1 x2 x3 x4 : Value} (h : Below W0.heap.size W0 w') (k1 : W0.cell? p1 = some x1) (k2 : W0.cell? p2 = some x2) (k3 : W0.cell? p3 = some x3) (k4 : W0.cell? p4 = some x4) :
    w'.cell? p1 = some x1 ∧ w'.cell? p2 = some x2 ∧ w'.cell? p3 = some x3 ∧ w'.cell? p4 = some x4 ∧ Below W0.heap.size W0 w' :=
  ⟨(h.cell (World.block_lt_of_cell? _ _ k1)).trans k1, (h.cell (World.block_lt_of_cell? _ _ k2)).trans k2, (h.cell (World.block_lt_of_cell? _ _ k3)).trans k3, (h.cell (World.block_lt_of_cell? _ _ k4)).trans k4, h⟩
theorem heldput {W0 w' : World} {p1 p2 p3 p4 : Addr} {x1 x2 x3 x4 : Value} (h : Below W0.heap.size W0 w') (g : Nat) (hg : W0.heap.size ≤ g) (x y z : Value) (k1 : W0.cell? p1 = some x1) (k2 : W0.cell? p2 = some x2) (k3 : W0.cell? p3 = some x3) (k4 : W0.cell? p4 = some x4) :
    (((w'.setCell ⟨g, 0, none⟩ x).setCell ⟨g, 1, none⟩ y).setCell ⟨g, 2, none⟩ z).cell? p1 = some x1 ∧ (((w'.setCell ⟨g, 0, none⟩ x).setCell ⟨g, 1, none⟩ y).setCell ⟨g, 2, none⟩ z).cell? p2 = some x2 ∧ (((w'.setCell ⟨g, 0, none⟩ x).setCell ⟨g, 1, none⟩ y).setCell ⟨g, 2, none⟩ z).cell? p3 = some x3 ∧
      (((w'.setCell ⟨g, 0, none⟩ x).setCell ⟨g, 1, none⟩ y).setCell ⟨g, 2, none⟩ z).cell? p4 = some x4 ∧ Below W0.heap.size W0 (((w'.setCell ⟨g, 0, none⟩ x).setCell ⟨g, 1, none⟩ y).setCell ⟨g, 2, none⟩ z) :=
  heldd4 (((h.setCell hg _).setCell hg _).setCell hg _) k1 k2 k3 k4
end Go.Proofs.Ytelogbkhplegaaa
