/- Merged: OctM. -/
import Derived.Test.YtjbbnlcghnjlfaaDoorGGpsWeeks19
import Derived.Laws.CopyOwn
namespace Go.Proofs.YtjbbnlcghnjlfaaDoor
open Go.RowKit
set_option linter.unusedVariables false

/-- Bytes as cells. -/
def bc (l : List UInt8) : List Value := l.map fun b => Value.int .u8 (b.toNat : Int)
theorem bc_at {l : List UInt8} {j : Nat} (h : j < l.length) : (bc l)[j]? = some (.int .u8 (l[j].toNat : Int)) := by
  unfold bc; rw [List.getElem?_map, List.getElem?_eq_getElem h]; rfl
/-- The block g holds just the bytes L. -/
def Bk (w : World) (g : Nat) (L : List UInt8) : Prop := w.heap[g]? = some (.cells (bc L).toArray 5 (0, 0))
theorem Bk.lt {w : World} {g : Nat} {L : List UInt8} (h : Bk w g L) : g < w.heap.size := (Array.getElem?_eq_some_iff.1 h).1
theorem Bk.cell {w : World} {g : Nat} {L : List UInt8} (h : Bk w g L) {i : Nat} (hi : i < L.length) : w.cell? ⟨g, i, none⟩ = some (.int .u8 (L[i].toNat : Int)) := by
  have e := bc_at hi
  unfold Bk at h
  simp [World.cell?, h]; simpa using e
theorem Bk.below {w w' : World} {g B : Nat} {L : List UInt8} (h : Bk w g L) (hb : Below B w w') (hB : g < B) : Bk w' g L := (hb.block g hB).trans h
theorem Bk.kept {w w' : World} {g : Nat} {L : List UInt8} {row : Option Nat} (h : Bk w g L) (hg : w.grownBy w' row) (hne : some g ≠ row) : Bk w' g L := (hg.block g h.lt hne).trans h
theorem Bk.alloc {w : World} {g : Nat} {L : List UInt8} (h : Bk w g L) (o : Obj) : Bk (w.alloc o) g L := h.kept (World.grownBy_alloc w o none) (by simp)
/-- A part of the block reads as its bytes. -/
theorem Bk.reads {w : World} {g : Nat} {L : List UInt8} (h : Bk w g L) (off : Nat) {n : Nat} : Rb w (some ⟨g, off, none⟩) ((L.drop off).take n) := by
  refine ⟨fun z hz => ?_, .inr ⟨g, off, rfl, h.lt, fun j z hj => ?_⟩⟩
  · obtain ⟨b, _, rfl⟩ := List.mem_map.1 hz
    have := b.toNat_lt
    simp [Lit.wf, IntKind.min, IntKind.max, IntKind.signed, IntKind.bits]
    omega
  · unfold nums at hj
    rw [List.getElem?_map] at hj
    cases hq : ((L.drop off).take n)[j]? with
    | none => rw [hq] at hj; cases hj
    | some b =>
      rw [hq] at hj
      obtain ⟨h1, h2⟩ := List.getElem?_eq_some_iff.1 hq
      simp only [List.length_take, List.length_drop] at h1
      simp at h2
      have hc := h.cell (i := off + j) (by omega)
      rw [hc]
      simp at hj
      rw [← hj, h2]
theorem Bk.whole {w : World} {g : Nat} {L : List UInt8} (h : Bk w g L) : Rb w (some ⟨g, 0, none⟩) L := by
  have := h.reads 0 (n := L.length)
  simpa using this
end Go.Proofs.YtjbbnlcghnjlfaaDoor
