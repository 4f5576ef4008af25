/- Merged: FigA. -/
import Derived.Test.YtjbbnlcghnjlfaaDoorGGpsWeeks5
import Derived.Test.YtjbbnlcghnjlfaaDoorGGpsWeeks12
import Derived.LoopTactic
import Derived.Lib.Walk
namespace Go.Proofs.YtjbbnlcghnjlfaaDoor
open Go.RowKit
set_option linter.unusedVariables false

/-! ### value -/
def vlE (l : List UInt8) (lim : Nat) : Int := if lim < dv l then 5 else 0
/-! ### take, whole -/
/-- Are the bounds out of order? -/
def tkR (a b : Int) : Bool := decide (a < 1) || decide (b < a) || decide (20 < b)
def tkk (l : List UInt8) (b : Int) : Nat := min (lead l) b.toNat
def tkE (l : List UInt8) (a b : Int) (lim : Nat) : Int := if tkR a b then 1 else if (tkk l b : Int) < a then 2 else vlE (l.take (tkk l b)) lim
def tkN (l : List UInt8) (a b : Int) (lim : Nat) : Nat := if tkE l a b lim = 0 then dv (l.take (tkk l b)) else 0
def tkK (l : List UInt8) (a b : Int) (lim : Nat) : Nat := if tkE l a b lim = 0 then tkk l b else 0
end Go.Proofs.YtjbbnlcghnjlfaaDoor
