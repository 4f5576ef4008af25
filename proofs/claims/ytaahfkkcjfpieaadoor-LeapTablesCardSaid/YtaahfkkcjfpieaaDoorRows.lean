/-
  NARROWER THAN 'FOR EVERY INPUT', by the rows' own cells (each row's printed sentence says how): LeapTables: laid · LeapDays: laid · LeapSteps: laid · LeapSame: laid.
  DERIVED. THE GIVEN ROWS OF THIS SEAT. 4 by the template 'for every input the law returns true; each argument reads behind the call as it read before'; 0 by the template 'total and deterministic' (their statements: YtaahfkkcjfpieaaDoorTotals.lean).
  GIVEN WITH THE SEED: the statements are not yours to turn. If you find one false, say at which input.
  Laid BY PROGRAM, IN A SANDBOX (cutbox-rows.mjs): the forced cells as the released guide's own fill.sh prints them over the translation c01fef42f5f69a35… (all of the seat's roots in one cut). By AI agents, Wed Nov 11 2026. No macro, syntax, notation, axiom, sorry.
-/
import Derived.Test.YtaahfkkcjfpieaaDoorChecked
import GoSem.Claim
import GoSem.ClaimJoined
import GoSem.ClaimMapViews
import Derived.JoinedTies
import Derived.KernelRfl
namespace Go.Proofs.YtaahfkkcjfpieaaDoor
/- THE CELL 'sum', in the pinned program and in every row, IS THE sha256 OF THE DUMP (.gsa) THAT YtaahfkkcjfpieaaDoorProg.lean LOADS. Nothing in Lean hashes anything: it is a label: what it is worth is what the hold of that sum in a sandbox is worth. -/
noncomputable def Tryd.pinned : Pinned := { name := "ytaahfkkcjfpieaadoor", sum := "c01fef42f5f69a353ff823808f10d6ae8b6aa9d25306f0b39fbbec13b9b769db", checked := Tryd.checked }
namespace Rows
def none {H : Type} : Left H := { results := [], args := [] }

/- WHAT THE LISTED PACKAGE-LEVEL VARIABLES READ AS WHEN THE CALL BEGINS. Each datum BY PROGRAM (the guide's laid-datum.mjs) off the statement by which the dump's own 'gosem.cut.vars' lays the variable. In a bare row this is a premise. The card (YtaahfkkcjfpieaaDoorCards.lean) ties it to the program's text. -/
def laid_horologe_day_ends {H : Type} : DataW H := .agg [.lit (.int .i64 0), .lit (.int .i64 31), .lit (.int .i64 59), .lit (.int .i64 90), .lit (.int .i64 120), .lit (.int .i64 151), .lit (.int .i64 181), .lit (.int .i64 212), .lit (.int .i64 243), .lit (.int .i64 273), .lit (.int .i64 304), .lit (.int .i64 334), .lit (.int .i64 365)]

/-- 'horologelaw10.LeapTables': WHATEVER THE INPUT: true; the input reads as it did. -/
def leapTablesSpec : ChangeSpec := { name := "leapTables", fn := fun _ => fun
  | [d1, d2] => { results := [.lit (.bool true)], args := [d1, d2] }
  | _ => none }
def leapTablesRow : OpenClaim := { program := "ytaahfkkcjfpieaadoor", sum := "c01fef42f5f69a353ff823808f10d6ae8b6aa9d25306f0b39fbbec13b9b769db", func := "horologe/horologelaw10.LeapTables", spec := "leapTables", unfollowed := true, recurses := true, named := ["horologe/day.ends"], apart := false, laid := [("horologe/day.ends", laid_horologe_day_ends)] }
def LeapTablesSaid : Prop := leapTablesRow.holds Tryd.pinned (OpenSpec.ofChange leapTablesSpec)

/-- ITS FALSE NEIGHBOUR: 'it returns false'. Refute it at one input. -/
def leapTablesWrong : ChangeSpec := { name := "leapTables", fn := fun _ => fun
  | [d1, d2] => { results := [.lit (.bool false)], args := [d1, d2] }
  | _ => none }
def LeapTablesWrongFalsely : Prop := leapTablesRow.holds Tryd.pinned (OpenSpec.ofChange leapTablesWrong)

/-- 'horologelaw10.LeapDays': WHATEVER THE INPUT: true; the input reads as it did. -/
def leapDaysSpec : ChangeSpec := { name := "leapDays", fn := fun _ => fun
  | [d1, d2, d3] => { results := [.lit (.bool true)], args := [d1, d2, d3] }
  | _ => none }
def leapDaysRow : OpenClaim := { program := "ytaahfkkcjfpieaadoor", sum := "c01fef42f5f69a353ff823808f10d6ae8b6aa9d25306f0b39fbbec13b9b769db", func := "horologe/horologelaw10.LeapDays", spec := "leapDays", unfollowed := true, recurses := true, named := ["horologe/day.ends"], apart := false, laid := [("horologe/day.ends", laid_horologe_day_ends)] }
def LeapDaysSaid : Prop := leapDaysRow.holds Tryd.pinned (OpenSpec.ofChange leapDaysSpec)

/-- ITS FALSE NEIGHBOUR: 'it returns false'. Refute it at one input. -/
def leapDaysWrong : ChangeSpec := { name := "leapDays", fn := fun _ => fun
  | [d1, d2, d3] => { results := [.lit (.bool false)], args := [d1, d2, d3] }
  | _ => none }
def LeapDaysWrongFalsely : Prop := leapDaysRow.holds Tryd.pinned (OpenSpec.ofChange leapDaysWrong)

/-- 'horologelaw10.LeapSteps': WHATEVER THE INPUT: true; the input reads as it did. -/
def leapStepsSpec : ChangeSpec := { name := "leapSteps", fn := fun _ => fun
  | [d1, d2] => { results := [.lit (.bool true)], args := [d1, d2] }
  | _ => none }
def leapStepsRow : OpenClaim := { program := "ytaahfkkcjfpieaadoor", sum := "c01fef42f5f69a353ff823808f10d6ae8b6aa9d25306f0b39fbbec13b9b769db", func := "horologe/horologelaw10.LeapSteps", spec := "leapSteps", unfollowed := true, recurses := true, named := ["horologe/day.ends"], apart := false, laid := [("horologe/day.ends", laid_horologe_day_ends)] }
def LeapStepsSaid : Prop := leapStepsRow.holds Tryd.pinned (OpenSpec.ofChange leapStepsSpec)

/-- ITS FALSE NEIGHBOUR: 'it returns false'. Refute it at one input. -/
def leapStepsWrong : ChangeSpec := { name := "leapSteps", fn := fun _ => fun
  | [d1, d2] => { results := [.lit (.bool false)], args := [d1, d2] }
  | _ => none }
def LeapStepsWrongFalsely : Prop := leapStepsRow.holds Tryd.pinned (OpenSpec.ofChange leapStepsWrong)

/-- 'horologelaw10.LeapSame': WHATEVER THE INPUT: true; the input reads as it did. -/
def leapSameSpec : ChangeSpec := { name := "leapSame", fn := fun _ => fun
  | [d1, d2, d3] => { results := [.lit (.bool true)], args := [d1, d2, d3] }
  | _ => none }
def leapSameRow : OpenClaim := { program := "ytaahfkkcjfpieaadoor", sum := "c01fef42f5f69a353ff823808f10d6ae8b6aa9d25306f0b39fbbec13b9b769db", func := "horologe/horologelaw10.LeapSame", spec := "leapSame", unfollowed := true, recurses := true, named := ["horologe/day.ends"], apart := false, laid := [("horologe/day.ends", laid_horologe_day_ends)] }
def LeapSameSaid : Prop := leapSameRow.holds Tryd.pinned (OpenSpec.ofChange leapSameSpec)

/-- ITS FALSE NEIGHBOUR: 'it returns false'. Refute it at one input. -/
def leapSameWrong : ChangeSpec := { name := "leapSame", fn := fun _ => fun
  | [d1, d2, d3] => { results := [.lit (.bool false)], args := [d1, d2, d3] }
  | _ => none }
def LeapSameWrongFalsely : Prop := leapSameRow.holds Tryd.pinned (OpenSpec.ofChange leapSameWrong)

/- THE SECOND FORM. 'bulk': how many values and letters a reading holds, each counted each time it is reached (what is shared counts as often as it is met; a slice's spare places count too). A statement '..UptoSaid' is the law's where the arguments, and the package variables that the reading takes, are together of bulk at most 1048576: NARROWER than '..Said'. Prove '..Said' where nothing that the law and all that it calls make is longer than what came in: it says more and counts as full. Else prove '..UptoSaid'. A law counts once. -/
mutual
def uptoBulk {H : Type} : DataW H → Nat
  | .lit (.string bytes) => bytes.length + 1
  | .lit _ => 1
  | .nil => 1
  | .ptr d => uptoBulk d + 1
  | .slice elems spare => uptoBulkAll elems + uptoBulkAll spare + 1
  | .agg parts => uptoBulkAll parts + 1
  | .iface _ d => uptoBulk d + 1
  | .map entries => uptoBulkEntries entries + 1
  | .held _ => 1
def uptoBulkAll {H : Type} : List (DataW H) → Nat
  | [] => 0
  | d :: r => uptoBulk d + uptoBulkAll r
def uptoBulkEntries {H : Type} : List (Lit × DataW H) → Nat
  | [] => 0
  | x :: r => uptoBulkEntry x + uptoBulkEntries r
def uptoBulkEntry {H : Type} : Lit × DataW H → Nat
  | (.string bytes, d) => bytes.length + uptoBulk d + 1
  | (_, d) => uptoBulk d + 1
 end
def uptoSmall : (H : Type) → List (DataW H) → Bool := fun _ ds => decide (uptoBulkAll ds ≤ 1048576)
def OpenSpec.upto (s : _root_.Go.ChangeSpec) : _root_.Go.OpenSpec := { _root_.Go.OpenSpec.ofChange s with cond := some uptoSmall }

/-- 'horologelaw10.LeapTables', WHERE WHAT IT READS IS OF BULK AT MOST 1048576: true; the input reads as it did. -/
def leapTablesUptoRow : OpenClaim := { program := "ytaahfkkcjfpieaadoor", sum := "c01fef42f5f69a353ff823808f10d6ae8b6aa9d25306f0b39fbbec13b9b769db", func := "horologe/horologelaw10.LeapTables", spec := "leapTables", unfollowed := true, recurses := true, named := ["horologe/day.ends"], apart := false, laid := [("horologe/day.ends", laid_horologe_day_ends)], narrowed := true }
def LeapTablesUptoSaid : Prop := leapTablesUptoRow.holds Tryd.pinned (OpenSpec.upto leapTablesSpec)

/-- 'horologelaw10.LeapDays', WHERE WHAT IT READS IS OF BULK AT MOST 1048576: true; the input reads as it did. -/
def leapDaysUptoRow : OpenClaim := { program := "ytaahfkkcjfpieaadoor", sum := "c01fef42f5f69a353ff823808f10d6ae8b6aa9d25306f0b39fbbec13b9b769db", func := "horologe/horologelaw10.LeapDays", spec := "leapDays", unfollowed := true, recurses := true, named := ["horologe/day.ends"], apart := false, laid := [("horologe/day.ends", laid_horologe_day_ends)], narrowed := true }
def LeapDaysUptoSaid : Prop := leapDaysUptoRow.holds Tryd.pinned (OpenSpec.upto leapDaysSpec)

/-- 'horologelaw10.LeapSteps', WHERE WHAT IT READS IS OF BULK AT MOST 1048576: true; the input reads as it did. -/
def leapStepsUptoRow : OpenClaim := { program := "ytaahfkkcjfpieaadoor", sum := "c01fef42f5f69a353ff823808f10d6ae8b6aa9d25306f0b39fbbec13b9b769db", func := "horologe/horologelaw10.LeapSteps", spec := "leapSteps", unfollowed := true, recurses := true, named := ["horologe/day.ends"], apart := false, laid := [("horologe/day.ends", laid_horologe_day_ends)], narrowed := true }
def LeapStepsUptoSaid : Prop := leapStepsUptoRow.holds Tryd.pinned (OpenSpec.upto leapStepsSpec)

/-- 'horologelaw10.LeapSame', WHERE WHAT IT READS IS OF BULK AT MOST 1048576: true; the input reads as it did. -/
def leapSameUptoRow : OpenClaim := { program := "ytaahfkkcjfpieaadoor", sum := "c01fef42f5f69a353ff823808f10d6ae8b6aa9d25306f0b39fbbec13b9b769db", func := "horologe/horologelaw10.LeapSame", spec := "leapSame", unfollowed := true, recurses := true, named := ["horologe/day.ends"], apart := false, laid := [("horologe/day.ends", laid_horologe_day_ends)], narrowed := true }
def LeapSameUptoSaid : Prop := leapSameUptoRow.holds Tryd.pinned (OpenSpec.upto leapSameSpec)

end Rows
end Go.Proofs.YtaahfkkcjfpieaaDoor
