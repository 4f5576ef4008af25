/- Scanners: Fold. (Written by gen2.py.) -/
import Derived.Test.YtjbbnlcghnjlfaaDoorScanB
import Derived.IntWalk
namespace Go.Proofs.YtjbbnlcghnjlfaaDoor
open Go.RowKit
set_option linter.unusedVariables false

/-- Is the word taken? Where it stands then. -/
def fdT (r : List UInt8) (e : Int) (w : List UInt8) : Bool := (e == 0) && fmB r w
def fdK (k : Nat) (r : List UInt8) (e : Int) (w : List UInt8) : Nat := if fdT r e w = true then k + w.length else k
theorem fd_no {k : Nat} {r : List UInt8} {e : Int} {w : List UInt8} (h : fdT r e w = false) : fdK k r e w = k := by unfold fdK; rw [h]; rfl
theorem fd_yes {k : Nat} {r : List UInt8} {e : Int} {w : List UInt8} (h : fdT r e w = true) : fdK k r e w = k + w.length := by unfold fdK; rw [if_pos h]

end Go.Proofs.YtjbbnlcghnjlfaaDoor
