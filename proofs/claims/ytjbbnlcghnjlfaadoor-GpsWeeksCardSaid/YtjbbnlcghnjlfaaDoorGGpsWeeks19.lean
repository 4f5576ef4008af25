/- Merged: Row. -/
import Derived.Test.YtjbbnlcghnjlfaaDoorGGpsWeeks5
import Derived.Test.YtjbbnlcghnjlfaaDoorGGpsWeeks18
import Derived.ChangeSlices
import Derived.WideKeyArgs
import Derived.WideKeyPair
import Derived.Carry
import Derived.Laws.IdiomStrings
import Derived.Laws.BytesArg
import Derived.Laws.OwnMore
import Derived.Maps.AppendAt
import Derived.OwnWalk
import Derived.Below
namespace Go.Proofs.YtjbbnlcghnjlfaaDoor
open Go.RowKit Go.WideShapes Go.ChangeShapes
set_option linter.unusedVariables false

/-- The slice at A reads as the numbers zs, of kind k. -/
def Rz (k : IntKind) (w : World) (A : Option Addr) (zs : List Int) : Prop :=
  (∀ z ∈ zs, (Lit.int k z).wf = true) ∧ (zs = [] ∨ ∃ b off, A = some ⟨b, off, none⟩ ∧ b < w.heap.size ∧ ∀ j z, zs[j]? = some z → w.cell? ⟨b, off + j, none⟩ = some (.int k z))
theorem Rz.below {k : IntKind} {w w' : World} {A : Option Addr} {zs : List Int} (h : Rz k w A zs) (hb : Below w.heap.size w w') : Rz k w' A zs := by
  refine ⟨h.1, ?_⟩
  rcases h.2 with h0 | ⟨b, off, h1, h2, h3⟩
  · exact .inl h0
  · exact .inr ⟨b, off, h1, Nat.lt_of_lt_of_le h2 hb.size, fun j z hz => (hb.cell (p := ⟨b, off + j, none⟩) h2).trans (h3 j z hz)⟩
theorem Rz.drewN {k : IntKind} {w : World} {A : Option Addr} {zs : List Int} (h : Rz k w A zs) (n : Nat) : Rz k (w.drewN n) A zs := h
theorem Rz.cell {k : IntKind} {w : World} {A : Option Addr} {zs : List Int} (h : Rz k w A zs) {i : Nat} (hi : i < zs.length) : ∃ b off, A = some ⟨b, off, none⟩ ∧ b < w.heap.size ∧ w.cell? ⟨b, off + i, none⟩ = some (.int k zs[i]) := by
  rcases h.2 with h0 | ⟨b, off, h1, h2, h3⟩
  · rw [h0] at hi; simp at hi
  · exact ⟨b, off, h1, h2, h3 i _ (List.getElem?_eq_getElem hi)⟩
theorem Rz.take_ {k : IntKind} {w : World} {A : Option Addr} {zs : List Int} (h : Rz k w A zs) (n : Nat) : Rz k w A (zs.take n) := by
  refine ⟨fun z hz => h.1 z (List.mem_of_mem_take hz), ?_⟩
  rcases h.2 with h0 | ⟨b, off, h1, h2, h3⟩
  · exact .inl (by rw [h0]; simp)
  · exact .inr ⟨b, off, h1, h2, fun j z hz => h3 j z (by
      rw [List.getElem?_take] at hz
      split at hz
      · exact hz
      · cases hz)⟩

/-- Bytes as numbers. -/
def nums (l : List UInt8) : List Int := l.map fun b => (b.toNat : Int)
theorem nums_len (l : List UInt8) : (nums l).length = l.length := by simp [nums]
/-- The slice at A reads as the bytes l. -/
def Rb (w : World) (A : Option Addr) (l : List UInt8) : Prop := Rz .u8 w A (nums l)
theorem Rb.below {w w' : World} {A : Option Addr} {l : List UInt8} (h : Rb w A l) (hb : Below w.heap.size w w') : Rb w' A l := Rz.below h hb
theorem Rb.drewN {w : World} {A : Option Addr} {l : List UInt8} (h : Rb w A l) (n : Nat) : Rb (w.drewN n) A l := h
theorem Rb.cell {w : World} {A : Option Addr} {l : List UInt8} (h : Rb w A l) {i : Nat} (hi : i < l.length) : ∃ b off, A = some ⟨b, off, none⟩ ∧ b < w.heap.size ∧ w.cell? ⟨b, off + i, none⟩ = some (.int .u8 (l[i].toNat : Int)) := by
  obtain ⟨b, off, h1, h2, h3⟩ := Rz.cell h (i := i) (by rw [nums_len]; exact hi)
  refine ⟨b, off, h1, h2, ?_⟩
  rw [h3]; simp [nums]
theorem Rb.take_ {w : World} {A : Option Addr} {l : List UInt8} (h : Rb w A l) (n : Nat) : Rb w A (l.take n) := by
  have := Rz.take_ h n
  unfold Rb nums at *
  rw [List.map_take]; exact this
theorem Rb.nil {w : World} (A : Option Addr) : Rb w A [] := ⟨(fun z hz => by simp [nums] at hz), .inl rfl⟩

section
variable {H : Type} {enc : TypeId × Value → H} {P : Program}
end

/-! ### strings of bytes -/
end Go.Proofs.YtjbbnlcghnjlfaaDoor
