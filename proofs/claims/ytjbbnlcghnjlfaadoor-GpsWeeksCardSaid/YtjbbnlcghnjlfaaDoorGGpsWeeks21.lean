/- Merged: ScanM. -/
import Derived.Test.YtjbbnlcghnjlfaaDoorGGpsWeeks16
import Derived.Test.YtjbbnlcghnjlfaaDoorGGpsWeeks19
import Derived.Test.YtjbbnlcghnjlfaaDoorGGpsWeeks20
namespace Go.Proofs.YtjbbnlcghnjlfaaDoor
open Go.RowKit
set_option linter.unusedVariables false

/-! ### lists -/
/-- What is left behind a place, if there is no error. -/
def rs (l : List UInt8) (k : Nat) (e : Int) : List UInt8 := if e = 0 then l.drop k else []
/-! ### a scanner's block -/
/-- The block g holds a scanner of the text v, at k, with the error e. -/
def Sk (T : TypeId) (w : World) (g : Nat) (v : Value) (k : Nat) (e : Int) : Prop := w.heap[g]? = some (.cells #[v, .int .i64 (k : Int), ev e] T (0, 0))
theorem Sk.lt {T : TypeId} {w : World} {g : Nat} {v : Value} {k : Nat} {e : Int} (h : Sk T w g v k e) : g < w.heap.size := (Array.getElem?_eq_some_iff.1 h).1
theorem Sk.c0 {T : TypeId} {w : World} {g : Nat} {v : Value} {k : Nat} {e : Int} (h : Sk T w g v k e) : w.cell? ⟨g, 0, none⟩ = some v := by unfold Sk at h; simp [World.cell?, h]
theorem Sk.c1 {T : TypeId} {w : World} {g : Nat} {v : Value} {k : Nat} {e : Int} (h : Sk T w g v k e) : w.cell? ⟨g, 1, none⟩ = some (.int .i64 (k : Int)) := by unfold Sk at h; simp [World.cell?, h]
theorem Sk.c2 {T : TypeId} {w : World} {g : Nat} {v : Value} {k : Nat} {e : Int} (h : Sk T w g v k e) : w.cell? ⟨g, 2, none⟩ = some (ev e) := by unfold Sk at h; simp [World.cell?, h]
theorem Sk.drewN {T : TypeId} {w : World} {g : Nat} {v : Value} {k : Nat} {e : Int} (h : Sk T w g v k e) (n : Nat) : Sk T (w.drewN n) g v k e := h
theorem Sk.kept {T : TypeId} {w w' : World} {g : Nat} {v : Value} {k : Nat} {e : Int} {row : Option Nat} (h : Sk T w g v k e) (hg : w.grownBy w' row) (hne : some g ≠ row) : Sk T w' g v k e := (hg.block g h.lt hne).trans h
theorem Sk.below {T : TypeId} {w w' : World} {g B : Nat} {v : Value} {k : Nat} {e : Int} (h : Sk T w g v k e) (hb : Below B w w') (hB : g < B) : Sk T w' g v k e := (hb.block g hB).trans h
theorem Sk.alloc {T : TypeId} {w : World} {g : Nat} {v : Value} {k : Nat} {e : Int} (h : Sk T w g v k e) (o : Obj) : Sk T (w.alloc o) g v k e := h.kept (World.grownBy_alloc w o none) (by simp)
theorem gb_refl (w : World) (r : Option Nat) : w.grownBy w r := ⟨rfl, rfl, rfl, Nat.le_refl _, fun _ _ _ => rfl⟩
theorem gb_draw {a w : World} {r : Option Nat} (h : a.grownBy w r) (n : Nat) : a.grownBy (w.drewN n) r := ⟨h.os, h.tape, h.output, h.size, h.block⟩
/-- The world behind an act of the scanner g: it stands at k with the error e; all else is as it was. -/
def Mv (T : TypeId) (g : Nat) (v : Value) (k : Nat) (e : Int) (w w' : World) : Prop := Sk T w' g v k e ∧ w.grownBy w' (some g)
theorem Mv.refl {T : TypeId} {w : World} {g : Nat} {v : Value} {k : Nat} {e : Int} (h : Sk T w g v k e) (n : Nat) : Mv T g v k e w (w.drewN n) := ⟨h, gb_draw (gb_refl _ _) n⟩
end Go.Proofs.YtjbbnlcghnjlfaaDoor
