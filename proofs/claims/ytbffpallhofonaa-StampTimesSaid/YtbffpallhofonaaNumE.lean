/- is; NumAdds. -/
import Derived.Test.YtbffpallhofonaaBigH
import Derived.Test.YtbffpallhofonaaNumC
import Derived.Test.YtbffpallhofonaaBx
import Derived.Deep.DeepCutAuto
import Derived.Deep.CutRange
import Derived.Deep.RegionHeld3
import Derived.Deep.RegionWith
namespace Go.Proofs.Ytbffpallhofonaa
open Go.RowKit

/-- Two Bigs' cells, kept over whatever leaves all below W0's size as it was. -/
theorem held4 {W0 w' : World} {p1 p2 p3 p4 : Addr} {x1 x2 x3 x4 : Value} (h : Below W0.heap.size W0 w') (k1 : W0.cell? p1 = some x1) (k2 : W0.cell? p2 = some x2) (k3 : W0.cell? p3 = some x3) (k4 : W0.cell? p4 = some x4) :
    w'.cell? p1 = some x1 ∧ w'.cell? p2 = some x2 ∧ w'.cell? p3 = some x3 ∧ w'.cell? p4 = some x4 ∧ Below W0.heap.size W0 w' :=
  ⟨(h.cell (World.block_lt_of_cell? _ _ k1)).trans k1, (h.cell (World.block_lt_of_cell? _ _ k2)).trans k2, (h.cell (World.block_lt_of_cell? _ _ k3)).trans k3, (h.cell (World.block_lt_of_cell? _ _ k4)).trans k4, h⟩
/-- Two Bigs that were just laid into two new blocks. -/
theorem two_new (w : World) (X Y : Array Value) (T : TypeId) : ∀ W0, (w.alloc (.cells X T)).alloc (.cells Y T) = W0 →
    (W0.heap[w.heap.size]? = some (.cells X T (0, 0))) ∧ (W0.heap[w.heap.size + 1]? = some (.cells Y T (0, 0))) ∧ Below w.heap.size w W0 := by
  rintro _ rfl
  obtain ⟨h1, h2, h3, _⟩ := after_two (Below.refl (w.heap.size + 2) ((w.alloc (.cells X T)).alloc (.cells Y T)))
  exact ⟨h1, h2, h3⟩

end Go.Proofs.Ytbffpallhofonaa
