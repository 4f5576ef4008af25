/- Merged: NumE. -/
import Derived.Test.YtjbbnlcghnjlfaaDoorGGpsWeeks37
import Derived.Test.YtjbbnlcghnjlfaaDoorGGpsWeeks7
import Derived.Outline
import Derived.Deep.DeepCutAuto
import Derived.Deep.CutRange
import Derived.Deep.RegionHeld3
import Derived.Deep.RegionWith
namespace Go.Proofs.YtjbbnlcghnjlfaaDoor
open Go.RowKit

/-- A Big's value, written out. -/
theorem BV.open_ {w : World} {v : Value} {z : Int} {k : Nat} (h : BV w v z k) : ∃ (b : Bool) (A : Option Addr) (n c : Nat), v = .agg #[.bool b, .slice A n c] := by
  obtain ⟨A, ds, c, rfl, _⟩ := h
  exact ⟨_, _, _, _, rfl⟩

/-- A Big is kept over stores over a Bool and a slice. -/
theorem BV.store2 {w : World} {v : Value} {z : Int} {k : Nat} (h : BV w v z k) {p q : Addr} {b : Bool} {C : Option Addr} {n c : Nat} (hp : w.cell? p = some (.bool b)) (hq : w.cell? q = some (.slice C n c)) (x y : Value) :
    BV ((w.setCell p x).setCell q y) v z k := by
  obtain ⟨A, ds, c, h1, h2, h3⟩ := h
  exact ⟨A, ds, c, h1, h2.store2 hp hq x y, h3⟩

end Go.Proofs.YtjbbnlcghnjlfaaDoor
