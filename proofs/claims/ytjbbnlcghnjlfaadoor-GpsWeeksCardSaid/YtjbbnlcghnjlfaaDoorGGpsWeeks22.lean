/- Merged: ScanA. -/
import Derived.Test.YtjbbnlcghnjlfaaDoorGGpsWeeks21
import Derived.LoopTactic
import Derived.Lib.Walk
namespace Go.Proofs.YtjbbnlcghnjlfaaDoor
open Go.RowKit
set_option linter.unusedVariables false

/-- The text of a scanner in the block g: a string. -/
def Txs (w : World) (g : Nat) (v : Value) (s : ByteArray) : Prop := v = .string s
/-- The text of a scanner in the block g: bytes, elsewhere. -/
def Txb (w : World) (g : Nat) (v : Value) (s : ByteArray) : Prop :=
  ∃ A c, v = .slice A s.size c ∧ Rb w A s.data.toList ∧ (A = none → c = 0) ∧ s.size ≤ c ∧ c ≤ maxLen ∧ ∀ ad, A = some ad → ad.block ≠ g
theorem Txs.kept {w w' : World} {g : Nat} {v : Value} {s : ByteArray} (h : Txs w g v s) (hg : w.grownBy w' (some g)) : Txs w' g v s := h
theorem Rb.kept {w w' : World} {g : Nat} {A : Option Addr} {l : List UInt8} (h : Rb w A l) (hg : w.grownBy w' (some g)) (hne : ∀ ad, A = some ad → ad.block ≠ g) : Rb w' A l := by
  refine ⟨h.1, ?_⟩
  rcases h.2 with h0 | ⟨b, off, h1, h2, h3⟩
  · exact .inl h0
  · exact .inr ⟨b, off, h1, Nat.lt_of_lt_of_le h2 hg.size, fun j z hz => hg.cell (h3 j z hz) (by intro e; injection e with e; exact hne _ h1 e)⟩
theorem Txb.kept {w w' : World} {g : Nat} {v : Value} {s : ByteArray} (h : Txb w g v s) (hg : w.grownBy w' (some g)) : Txb w' g v s := by
  obtain ⟨A, c, h1, h2, h3, h4, h5, h6⟩ := h
  exact ⟨A, c, h1, h2.kept hg h6, h3, h4, h5, h6⟩

end Go.Proofs.YtjbbnlcghnjlfaaDoor
