/-
  NARROWER THAN 'FOR EVERY INPUT', by the rows' own cells (each row's printed sentence says how): LabelChecks: laid · LabelShifts: laid · LabelMakes: laid · LabelOrders: laid · LabelBack: laid.
  DERIVED. THE GIVEN ROWS OF THIS SEAT. 5 by the template 'for every input the law returns true; each argument reads behind the call as it read before'; 0 by the template 'total and deterministic' (their statements: YtlnijcfgkhbfhaaDoorTotals.lean).
  GIVEN WITH THE SEED: the statements are not yours to turn. If you find one false, say at which input.
  Laid BY PROGRAM, IN A SANDBOX (cutbox-rows.mjs): the forced cells as the released guide's own fill.sh prints them over the translation 5304097dbd57a191… (all of the seat's roots in one cut). By AI agents, Wed Nov 11 2026. No macro, syntax, notation, axiom, sorry.
-/
import Derived.Test.YtlnijcfgkhbfhaaDoorChecked
import GoSem.Claim
import GoSem.ClaimJoined
import GoSem.ClaimMapViews
import Derived.JoinedTies
import Derived.KernelRfl
namespace Go.Proofs.YtlnijcfgkhbfhaaDoor
/- THE CELL 'sum', in the pinned program and in every row, IS THE sha256 OF THE DUMP (.gsa) THAT YtlnijcfgkhbfhaaDoorProg.lean LOADS. Nothing in Lean hashes anything: it is a label: what it is worth is what the hold of that sum in a sandbox is worth. -/
noncomputable def Tryd.pinned : Pinned := { name := "ytlnijcfgkhbfhaadoor", sum := "5304097dbd57a191c4ed2c3a091bef879f84c186681aadc850fcbf179ced2d9a", checked := Tryd.checked }
namespace Rows
def none {H : Type} : Left H := { results := [], args := [] }

/- WHAT THE LISTED PACKAGE-LEVEL VARIABLES READ AS WHEN THE CALL BEGINS. Each datum BY PROGRAM (the guide's laid-datum.mjs) off the statement by which the dump's own 'gosem.cut.vars' lays the variable. In a bare row this is a premise. The card (YtlnijcfgkhbfhaaDoorCards.lean) ties it to the program's text. -/
def laid_horologe_day_ends {H : Type} : DataW H := .agg [.lit (.int .i64 0), .lit (.int .i64 31), .lit (.int .i64 59), .lit (.int .i64 90), .lit (.int .i64 120), .lit (.int .i64 151), .lit (.int .i64 181), .lit (.int .i64 212), .lit (.int .i64 243), .lit (.int .i64 273), .lit (.int .i64 304), .lit (.int .i64 334), .lit (.int .i64 365)]

/-- 'horologelaw08.LabelChecks': WHATEVER THE INPUT: true; the input reads as it did. -/
def labelChecksSpec : ChangeSpec := { name := "labelChecks", fn := fun _ => fun
  | [d] => { results := [.lit (.bool true)], args := [d] }
  | _ => none }
def labelChecksRow : OpenClaim := { program := "ytlnijcfgkhbfhaadoor", sum := "5304097dbd57a191c4ed2c3a091bef879f84c186681aadc850fcbf179ced2d9a", func := "horologe/horologelaw08.LabelChecks", spec := "labelChecks", named := ["horologe/day.ends"], apart := false, laid := [("horologe/day.ends", laid_horologe_day_ends)] }
def LabelChecksSaid : Prop := labelChecksRow.holds Tryd.pinned (OpenSpec.ofChange labelChecksSpec)

/-- ITS FALSE NEIGHBOUR: 'it returns false'. Refute it at one input. -/
def labelChecksWrong : ChangeSpec := { name := "labelChecks", fn := fun _ => fun
  | [d] => { results := [.lit (.bool false)], args := [d] }
  | _ => none }
def LabelChecksWrongFalsely : Prop := labelChecksRow.holds Tryd.pinned (OpenSpec.ofChange labelChecksWrong)

/-- 'horologelaw08.LabelShifts': WHATEVER THE INPUT: true; the input reads as it did. -/
def labelShiftsSpec : ChangeSpec := { name := "labelShifts", fn := fun _ => fun
  | [d1, d2] => { results := [.lit (.bool true)], args := [d1, d2] }
  | _ => none }
def labelShiftsRow : OpenClaim := { program := "ytlnijcfgkhbfhaadoor", sum := "5304097dbd57a191c4ed2c3a091bef879f84c186681aadc850fcbf179ced2d9a", func := "horologe/horologelaw08.LabelShifts", spec := "labelShifts", unfollowed := true, recurses := true, named := ["horologe/day.ends"], apart := false, laid := [("horologe/day.ends", laid_horologe_day_ends)] }
def LabelShiftsSaid : Prop := labelShiftsRow.holds Tryd.pinned (OpenSpec.ofChange labelShiftsSpec)

/-- ITS FALSE NEIGHBOUR: 'it returns false'. Refute it at one input. -/
def labelShiftsWrong : ChangeSpec := { name := "labelShifts", fn := fun _ => fun
  | [d1, d2] => { results := [.lit (.bool false)], args := [d1, d2] }
  | _ => none }
def LabelShiftsWrongFalsely : Prop := labelShiftsRow.holds Tryd.pinned (OpenSpec.ofChange labelShiftsWrong)

/-- 'horologelaw08.LabelMakes': WHATEVER THE INPUT: true; the input reads as it did. -/
def labelMakesSpec : ChangeSpec := { name := "labelMakes", fn := fun _ => fun
  | [d1, d2, d3] => { results := [.lit (.bool true)], args := [d1, d2, d3] }
  | _ => none }
def labelMakesRow : OpenClaim := { program := "ytlnijcfgkhbfhaadoor", sum := "5304097dbd57a191c4ed2c3a091bef879f84c186681aadc850fcbf179ced2d9a", func := "horologe/horologelaw08.LabelMakes", spec := "labelMakes", unfollowed := true, recurses := true, named := ["horologe/day.ends"], apart := false, laid := [("horologe/day.ends", laid_horologe_day_ends)] }
def LabelMakesSaid : Prop := labelMakesRow.holds Tryd.pinned (OpenSpec.ofChange labelMakesSpec)

/-- ITS FALSE NEIGHBOUR: 'it returns false'. Refute it at one input. -/
def labelMakesWrong : ChangeSpec := { name := "labelMakes", fn := fun _ => fun
  | [d1, d2, d3] => { results := [.lit (.bool false)], args := [d1, d2, d3] }
  | _ => none }
def LabelMakesWrongFalsely : Prop := labelMakesRow.holds Tryd.pinned (OpenSpec.ofChange labelMakesWrong)

/-- 'horologelaw08.LabelOrders': WHATEVER THE INPUT: true; the input reads as it did. -/
def labelOrdersSpec : ChangeSpec := { name := "labelOrders", fn := fun _ => fun
  | [d1, d2, d3] => { results := [.lit (.bool true)], args := [d1, d2, d3] }
  | _ => none }
def labelOrdersRow : OpenClaim := { program := "ytlnijcfgkhbfhaadoor", sum := "5304097dbd57a191c4ed2c3a091bef879f84c186681aadc850fcbf179ced2d9a", func := "horologe/horologelaw08.LabelOrders", spec := "labelOrders", named := ["horologe/day.ends"], apart := false, laid := [("horologe/day.ends", laid_horologe_day_ends)] }
def LabelOrdersSaid : Prop := labelOrdersRow.holds Tryd.pinned (OpenSpec.ofChange labelOrdersSpec)

/-- ITS FALSE NEIGHBOUR: 'it returns false'. Refute it at one input. -/
def labelOrdersWrong : ChangeSpec := { name := "labelOrders", fn := fun _ => fun
  | [d1, d2, d3] => { results := [.lit (.bool false)], args := [d1, d2, d3] }
  | _ => none }
def LabelOrdersWrongFalsely : Prop := labelOrdersRow.holds Tryd.pinned (OpenSpec.ofChange labelOrdersWrong)

/-- 'horologelaw08.LabelBack': WHATEVER THE INPUT: true; the input reads as it did. -/
def labelBackSpec : ChangeSpec := { name := "labelBack", fn := fun _ => fun
  | [d1, d2] => { results := [.lit (.bool true)], args := [d1, d2] }
  | _ => none }
def labelBackRow : OpenClaim := { program := "ytlnijcfgkhbfhaadoor", sum := "5304097dbd57a191c4ed2c3a091bef879f84c186681aadc850fcbf179ced2d9a", func := "horologe/horologelaw08.LabelBack", spec := "labelBack", unfollowed := true, recurses := true, named := ["horologe/day.ends"], apart := false, laid := [("horologe/day.ends", laid_horologe_day_ends)] }
def LabelBackSaid : Prop := labelBackRow.holds Tryd.pinned (OpenSpec.ofChange labelBackSpec)

/-- ITS FALSE NEIGHBOUR: 'it returns false'. Refute it at one input. -/
def labelBackWrong : ChangeSpec := { name := "labelBack", fn := fun _ => fun
  | [d1, d2] => { results := [.lit (.bool false)], args := [d1, d2] }
  | _ => none }
def LabelBackWrongFalsely : Prop := labelBackRow.holds Tryd.pinned (OpenSpec.ofChange labelBackWrong)

/- THE SECOND FORM. 'bulk': how many values and letters a reading holds, each counted each time it is reached (what is shared counts as often as it is met; a slice's spare places count too). A statement '..UptoSaid' is the law's where the arguments, and the package variables that the reading takes, are together of bulk at most 1048576: NARROWER than '..Said'. Prove '..Said' where nothing that the law and all that it calls make is longer than what came in: it says more and counts as full. Else prove '..UptoSaid'. A law counts once. -/
mutual
def uptoBulk {H : Type} : DataW H → Nat
  | .lit (.string bytes) => bytes.length + 1
  | .lit _ => 1
  | .nil => 1
  | .ptr d => uptoBulk d + 1
  | .slice elems spare => uptoBulkAll elems + uptoBulkAll spare + 1
  | .agg parts => uptoBulkAll parts + 1
  | .iface _ d => uptoBulk d + 1
  | .map entries => uptoBulkEntries entries + 1
  | .held _ => 1
def uptoBulkAll {H : Type} : List (DataW H) → Nat
  | [] => 0
  | d :: r => uptoBulk d + uptoBulkAll r
def uptoBulkEntries {H : Type} : List (Lit × DataW H) → Nat
  | [] => 0
  | x :: r => uptoBulkEntry x + uptoBulkEntries r
def uptoBulkEntry {H : Type} : Lit × DataW H → Nat
  | (.string bytes, d) => bytes.length + uptoBulk d + 1
  | (_, d) => uptoBulk d + 1
 end
def uptoSmall : (H : Type) → List (DataW H) → Bool := fun _ ds => decide (uptoBulkAll ds ≤ 1048576)
def OpenSpec.upto (s : _root_.Go.ChangeSpec) : _root_.Go.OpenSpec := { _root_.Go.OpenSpec.ofChange s with cond := some uptoSmall }

/-- 'horologelaw08.LabelChecks', WHERE WHAT IT READS IS OF BULK AT MOST 1048576: true; the input reads as it did. -/
def labelChecksUptoRow : OpenClaim := { program := "ytlnijcfgkhbfhaadoor", sum := "5304097dbd57a191c4ed2c3a091bef879f84c186681aadc850fcbf179ced2d9a", func := "horologe/horologelaw08.LabelChecks", spec := "labelChecks", named := ["horologe/day.ends"], apart := false, laid := [("horologe/day.ends", laid_horologe_day_ends)], narrowed := true }
def LabelChecksUptoSaid : Prop := labelChecksUptoRow.holds Tryd.pinned (OpenSpec.upto labelChecksSpec)

/-- 'horologelaw08.LabelShifts', WHERE WHAT IT READS IS OF BULK AT MOST 1048576: true; the input reads as it did. -/
def labelShiftsUptoRow : OpenClaim := { program := "ytlnijcfgkhbfhaadoor", sum := "5304097dbd57a191c4ed2c3a091bef879f84c186681aadc850fcbf179ced2d9a", func := "horologe/horologelaw08.LabelShifts", spec := "labelShifts", unfollowed := true, recurses := true, named := ["horologe/day.ends"], apart := false, laid := [("horologe/day.ends", laid_horologe_day_ends)], narrowed := true }
def LabelShiftsUptoSaid : Prop := labelShiftsUptoRow.holds Tryd.pinned (OpenSpec.upto labelShiftsSpec)

/-- 'horologelaw08.LabelMakes', WHERE WHAT IT READS IS OF BULK AT MOST 1048576: true; the input reads as it did. -/
def labelMakesUptoRow : OpenClaim := { program := "ytlnijcfgkhbfhaadoor", sum := "5304097dbd57a191c4ed2c3a091bef879f84c186681aadc850fcbf179ced2d9a", func := "horologe/horologelaw08.LabelMakes", spec := "labelMakes", unfollowed := true, recurses := true, named := ["horologe/day.ends"], apart := false, laid := [("horologe/day.ends", laid_horologe_day_ends)], narrowed := true }
def LabelMakesUptoSaid : Prop := labelMakesUptoRow.holds Tryd.pinned (OpenSpec.upto labelMakesSpec)

/-- 'horologelaw08.LabelOrders', WHERE WHAT IT READS IS OF BULK AT MOST 1048576: true; the input reads as it did. -/
def labelOrdersUptoRow : OpenClaim := { program := "ytlnijcfgkhbfhaadoor", sum := "5304097dbd57a191c4ed2c3a091bef879f84c186681aadc850fcbf179ced2d9a", func := "horologe/horologelaw08.LabelOrders", spec := "labelOrders", named := ["horologe/day.ends"], apart := false, laid := [("horologe/day.ends", laid_horologe_day_ends)], narrowed := true }
def LabelOrdersUptoSaid : Prop := labelOrdersUptoRow.holds Tryd.pinned (OpenSpec.upto labelOrdersSpec)

/-- 'horologelaw08.LabelBack', WHERE WHAT IT READS IS OF BULK AT MOST 1048576: true; the input reads as it did. -/
def labelBackUptoRow : OpenClaim := { program := "ytlnijcfgkhbfhaadoor", sum := "5304097dbd57a191c4ed2c3a091bef879f84c186681aadc850fcbf179ced2d9a", func := "horologe/horologelaw08.LabelBack", spec := "labelBack", unfollowed := true, recurses := true, named := ["horologe/day.ends"], apart := false, laid := [("horologe/day.ends", laid_horologe_day_ends)], narrowed := true }
def LabelBackUptoSaid : Prop := labelBackUptoRow.holds Tryd.pinned (OpenSpec.upto labelBackSpec)

end Rows
end Go.Proofs.YtlnijcfgkhbfhaaDoor
