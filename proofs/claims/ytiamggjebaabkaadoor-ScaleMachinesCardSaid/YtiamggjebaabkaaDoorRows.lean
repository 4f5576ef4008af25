/-
  NARROWER THAN 'FOR EVERY INPUT', by the rows' own cells (each row's printed sentence says how): ScaleLabels: laid · ScaleSeconds: laid · ScaleMachines: laid · ScaleBack: laid · ScaleSteps: laid.
  DERIVED. THE GIVEN ROWS OF THIS SEAT. 5 by the template 'for every input the law returns true; each argument reads behind the call as it read before'; 0 by the template 'total and deterministic' (their statements: YtiamggjebaabkaaDoorTotals.lean).
  GIVEN WITH THE SEED: the statements are not yours to turn. If you find one false, say at which input.
  Laid BY PROGRAM, IN A SANDBOX (cutbox-rows.mjs): the forced cells as the released guide's own fill.sh prints them over the translation c85cf5924d16d07e… (all of the seat's roots in one cut). By AI agents, Wed Nov 11 2026. No macro, syntax, notation, axiom, sorry.
-/
import Derived.Test.YtiamggjebaabkaaDoorChecked
import GoSem.Claim
import GoSem.ClaimJoined
import GoSem.ClaimMapViews
import Derived.JoinedTies
import Derived.KernelRfl
namespace Go.Proofs.YtiamggjebaabkaaDoor
/- THE CELL 'sum', in the pinned program and in every row, IS THE sha256 OF THE DUMP (.gsa) THAT YtiamggjebaabkaaDoorProg.lean LOADS. Nothing in Lean hashes anything: it is a label: what it is worth is what the hold of that sum in a sandbox is worth. -/
noncomputable def Tryd.pinned : Pinned := { name := "ytiamggjebaabkaadoor", sum := "c85cf5924d16d07ec021ff6dd7af3255e9d2484ed0bbff7ac247040ae48fa6b9", checked := Tryd.checked }
namespace Rows
def none {H : Type} : Left H := { results := [], args := [] }

/- WHAT THE LISTED PACKAGE-LEVEL VARIABLES READ AS WHEN THE CALL BEGINS. Each datum BY PROGRAM (the guide's laid-datum.mjs) off the statement by which the dump's own 'gosem.cut.vars' lays the variable. In a bare row this is a premise. The card (YtiamggjebaabkaaDoorCards.lean) ties it to the program's text. -/
def laid_horologe_day_ends {H : Type} : DataW H := .agg [.lit (.int .i64 0), .lit (.int .i64 31), .lit (.int .i64 59), .lit (.int .i64 90), .lit (.int .i64 120), .lit (.int .i64 151), .lit (.int .i64 181), .lit (.int .i64 212), .lit (.int .i64 243), .lit (.int .i64 273), .lit (.int .i64 304), .lit (.int .i64 334), .lit (.int .i64 365)]

/-- 'horologelaw12.ScaleLabels': WHATEVER THE INPUT: true; the input reads as it did. -/
def scaleLabelsSpec : ChangeSpec := { name := "scaleLabels", fn := fun _ => fun
  | [d1, d2] => { results := [.lit (.bool true)], args := [d1, d2] }
  | _ => none }
def scaleLabelsRow : OpenClaim := { program := "ytiamggjebaabkaadoor", sum := "c85cf5924d16d07ec021ff6dd7af3255e9d2484ed0bbff7ac247040ae48fa6b9", func := "horologe/horologelaw12.ScaleLabels", spec := "scaleLabels", unfollowed := true, recurses := true, named := ["horologe/day.ends"], apart := false, laid := [("horologe/day.ends", laid_horologe_day_ends)] }
def ScaleLabelsSaid : Prop := scaleLabelsRow.holds Tryd.pinned (OpenSpec.ofChange scaleLabelsSpec)

/-- ITS FALSE NEIGHBOUR: 'it returns false'. Refute it at one input. -/
def scaleLabelsWrong : ChangeSpec := { name := "scaleLabels", fn := fun _ => fun
  | [d1, d2] => { results := [.lit (.bool false)], args := [d1, d2] }
  | _ => none }
def ScaleLabelsWrongFalsely : Prop := scaleLabelsRow.holds Tryd.pinned (OpenSpec.ofChange scaleLabelsWrong)

/-- 'horologelaw12.ScaleSeconds': WHATEVER THE INPUT: true; the input reads as it did. -/
def scaleSecondsSpec : ChangeSpec := { name := "scaleSeconds", fn := fun _ => fun
  | [d1, d2, d3] => { results := [.lit (.bool true)], args := [d1, d2, d3] }
  | _ => none }
def scaleSecondsRow : OpenClaim := { program := "ytiamggjebaabkaadoor", sum := "c85cf5924d16d07ec021ff6dd7af3255e9d2484ed0bbff7ac247040ae48fa6b9", func := "horologe/horologelaw12.ScaleSeconds", spec := "scaleSeconds", unfollowed := true, recurses := true, named := ["horologe/day.ends"], apart := false, laid := [("horologe/day.ends", laid_horologe_day_ends)] }
def ScaleSecondsSaid : Prop := scaleSecondsRow.holds Tryd.pinned (OpenSpec.ofChange scaleSecondsSpec)

/-- ITS FALSE NEIGHBOUR: 'it returns false'. Refute it at one input. -/
def scaleSecondsWrong : ChangeSpec := { name := "scaleSeconds", fn := fun _ => fun
  | [d1, d2, d3] => { results := [.lit (.bool false)], args := [d1, d2, d3] }
  | _ => none }
def ScaleSecondsWrongFalsely : Prop := scaleSecondsRow.holds Tryd.pinned (OpenSpec.ofChange scaleSecondsWrong)

/-- 'horologelaw12.ScaleMachines': WHATEVER THE INPUT: true; the input reads as it did. -/
def scaleMachinesSpec : ChangeSpec := { name := "scaleMachines", fn := fun _ => fun
  | [d1, d2, d3] => { results := [.lit (.bool true)], args := [d1, d2, d3] }
  | _ => none }
def scaleMachinesRow : OpenClaim := { program := "ytiamggjebaabkaadoor", sum := "c85cf5924d16d07ec021ff6dd7af3255e9d2484ed0bbff7ac247040ae48fa6b9", func := "horologe/horologelaw12.ScaleMachines", spec := "scaleMachines", unfollowed := true, recurses := true, named := ["horologe/day.ends"], apart := false, laid := [("horologe/day.ends", laid_horologe_day_ends)] }
def ScaleMachinesSaid : Prop := scaleMachinesRow.holds Tryd.pinned (OpenSpec.ofChange scaleMachinesSpec)

/-- ITS FALSE NEIGHBOUR: 'it returns false'. Refute it at one input. -/
def scaleMachinesWrong : ChangeSpec := { name := "scaleMachines", fn := fun _ => fun
  | [d1, d2, d3] => { results := [.lit (.bool false)], args := [d1, d2, d3] }
  | _ => none }
def ScaleMachinesWrongFalsely : Prop := scaleMachinesRow.holds Tryd.pinned (OpenSpec.ofChange scaleMachinesWrong)

/-- 'horologelaw12.ScaleBack': WHATEVER THE INPUT: true; the input reads as it did. -/
def scaleBackSpec : ChangeSpec := { name := "scaleBack", fn := fun _ => fun
  | [d1, d2, d3] => { results := [.lit (.bool true)], args := [d1, d2, d3] }
  | _ => none }
def scaleBackRow : OpenClaim := { program := "ytiamggjebaabkaadoor", sum := "c85cf5924d16d07ec021ff6dd7af3255e9d2484ed0bbff7ac247040ae48fa6b9", func := "horologe/horologelaw12.ScaleBack", spec := "scaleBack", unfollowed := true, recurses := true, named := ["horologe/day.ends"], apart := false, laid := [("horologe/day.ends", laid_horologe_day_ends)] }
def ScaleBackSaid : Prop := scaleBackRow.holds Tryd.pinned (OpenSpec.ofChange scaleBackSpec)

/-- ITS FALSE NEIGHBOUR: 'it returns false'. Refute it at one input. -/
def scaleBackWrong : ChangeSpec := { name := "scaleBack", fn := fun _ => fun
  | [d1, d2, d3] => { results := [.lit (.bool false)], args := [d1, d2, d3] }
  | _ => none }
def ScaleBackWrongFalsely : Prop := scaleBackRow.holds Tryd.pinned (OpenSpec.ofChange scaleBackWrong)

/-- 'horologelaw12.ScaleSteps': WHATEVER THE INPUT: true; the input reads as it did. -/
def scaleStepsSpec : ChangeSpec := { name := "scaleSteps", fn := fun _ => fun
  | [d1, d2] => { results := [.lit (.bool true)], args := [d1, d2] }
  | _ => none }
def scaleStepsRow : OpenClaim := { program := "ytiamggjebaabkaadoor", sum := "c85cf5924d16d07ec021ff6dd7af3255e9d2484ed0bbff7ac247040ae48fa6b9", func := "horologe/horologelaw12.ScaleSteps", spec := "scaleSteps", unfollowed := true, recurses := true, named := ["horologe/day.ends"], apart := false, laid := [("horologe/day.ends", laid_horologe_day_ends)] }
def ScaleStepsSaid : Prop := scaleStepsRow.holds Tryd.pinned (OpenSpec.ofChange scaleStepsSpec)

/-- ITS FALSE NEIGHBOUR: 'it returns false'. Refute it at one input. -/
def scaleStepsWrong : ChangeSpec := { name := "scaleSteps", fn := fun _ => fun
  | [d1, d2] => { results := [.lit (.bool false)], args := [d1, d2] }
  | _ => none }
def ScaleStepsWrongFalsely : Prop := scaleStepsRow.holds Tryd.pinned (OpenSpec.ofChange scaleStepsWrong)

/- THE SECOND FORM. 'bulk': how many values and letters a reading holds, each counted each time it is reached (what is shared counts as often as it is met; a slice's spare places count too). A statement '..UptoSaid' is the law's where the arguments, and the package variables that the reading takes, are together of bulk at most 1048576: NARROWER than '..Said'. Prove '..Said' where nothing that the law and all that it calls make is longer than what came in: it says more and counts as full. Else prove '..UptoSaid'. A law counts once. -/
mutual
def uptoBulk {H : Type} : DataW H → Nat
  | .lit (.string bytes) => bytes.length + 1
  | .lit _ => 1
  | .nil => 1
  | .ptr d => uptoBulk d + 1
  | .slice elems spare => uptoBulkAll elems + uptoBulkAll spare + 1
  | .agg parts => uptoBulkAll parts + 1
  | .iface _ d => uptoBulk d + 1
  | .map entries => uptoBulkEntries entries + 1
  | .held _ => 1
def uptoBulkAll {H : Type} : List (DataW H) → Nat
  | [] => 0
  | d :: r => uptoBulk d + uptoBulkAll r
def uptoBulkEntries {H : Type} : List (Lit × DataW H) → Nat
  | [] => 0
  | x :: r => uptoBulkEntry x + uptoBulkEntries r
def uptoBulkEntry {H : Type} : Lit × DataW H → Nat
  | (.string bytes, d) => bytes.length + uptoBulk d + 1
  | (_, d) => uptoBulk d + 1
 end
def uptoSmall : (H : Type) → List (DataW H) → Bool := fun _ ds => decide (uptoBulkAll ds ≤ 1048576)
def OpenSpec.upto (s : _root_.Go.ChangeSpec) : _root_.Go.OpenSpec := { _root_.Go.OpenSpec.ofChange s with cond := some uptoSmall }

/-- 'horologelaw12.ScaleLabels', WHERE WHAT IT READS IS OF BULK AT MOST 1048576: true; the input reads as it did. -/
def scaleLabelsUptoRow : OpenClaim := { program := "ytiamggjebaabkaadoor", sum := "c85cf5924d16d07ec021ff6dd7af3255e9d2484ed0bbff7ac247040ae48fa6b9", func := "horologe/horologelaw12.ScaleLabels", spec := "scaleLabels", unfollowed := true, recurses := true, named := ["horologe/day.ends"], apart := false, laid := [("horologe/day.ends", laid_horologe_day_ends)], narrowed := true }
def ScaleLabelsUptoSaid : Prop := scaleLabelsUptoRow.holds Tryd.pinned (OpenSpec.upto scaleLabelsSpec)

/-- 'horologelaw12.ScaleSeconds', WHERE WHAT IT READS IS OF BULK AT MOST 1048576: true; the input reads as it did. -/
def scaleSecondsUptoRow : OpenClaim := { program := "ytiamggjebaabkaadoor", sum := "c85cf5924d16d07ec021ff6dd7af3255e9d2484ed0bbff7ac247040ae48fa6b9", func := "horologe/horologelaw12.ScaleSeconds", spec := "scaleSeconds", unfollowed := true, recurses := true, named := ["horologe/day.ends"], apart := false, laid := [("horologe/day.ends", laid_horologe_day_ends)], narrowed := true }
def ScaleSecondsUptoSaid : Prop := scaleSecondsUptoRow.holds Tryd.pinned (OpenSpec.upto scaleSecondsSpec)

/-- 'horologelaw12.ScaleMachines', WHERE WHAT IT READS IS OF BULK AT MOST 1048576: true; the input reads as it did. -/
def scaleMachinesUptoRow : OpenClaim := { program := "ytiamggjebaabkaadoor", sum := "c85cf5924d16d07ec021ff6dd7af3255e9d2484ed0bbff7ac247040ae48fa6b9", func := "horologe/horologelaw12.ScaleMachines", spec := "scaleMachines", unfollowed := true, recurses := true, named := ["horologe/day.ends"], apart := false, laid := [("horologe/day.ends", laid_horologe_day_ends)], narrowed := true }
def ScaleMachinesUptoSaid : Prop := scaleMachinesUptoRow.holds Tryd.pinned (OpenSpec.upto scaleMachinesSpec)

/-- 'horologelaw12.ScaleBack', WHERE WHAT IT READS IS OF BULK AT MOST 1048576: true; the input reads as it did. -/
def scaleBackUptoRow : OpenClaim := { program := "ytiamggjebaabkaadoor", sum := "c85cf5924d16d07ec021ff6dd7af3255e9d2484ed0bbff7ac247040ae48fa6b9", func := "horologe/horologelaw12.ScaleBack", spec := "scaleBack", unfollowed := true, recurses := true, named := ["horologe/day.ends"], apart := false, laid := [("horologe/day.ends", laid_horologe_day_ends)], narrowed := true }
def ScaleBackUptoSaid : Prop := scaleBackUptoRow.holds Tryd.pinned (OpenSpec.upto scaleBackSpec)

/-- 'horologelaw12.ScaleSteps', WHERE WHAT IT READS IS OF BULK AT MOST 1048576: true; the input reads as it did. -/
def scaleStepsUptoRow : OpenClaim := { program := "ytiamggjebaabkaadoor", sum := "c85cf5924d16d07ec021ff6dd7af3255e9d2484ed0bbff7ac247040ae48fa6b9", func := "horologe/horologelaw12.ScaleSteps", spec := "scaleSteps", unfollowed := true, recurses := true, named := ["horologe/day.ends"], apart := false, laid := [("horologe/day.ends", laid_horologe_day_ends)], narrowed := true }
def ScaleStepsUptoSaid : Prop := scaleStepsUptoRow.holds Tryd.pinned (OpenSpec.upto scaleStepsSpec)

end Rows
end Go.Proofs.YtiamggjebaabkaaDoor
