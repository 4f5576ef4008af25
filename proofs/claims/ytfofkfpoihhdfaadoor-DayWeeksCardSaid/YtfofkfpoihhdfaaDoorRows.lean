/-
  NARROWER THAN 'FOR EVERY INPUT', by the rows' own cells (each row's printed sentence says how): DayDates: laid · DayNumbers: laid · DayYears: laid · DayBack: laid · DayWeeks: laid.
  DERIVED. THE GIVEN ROWS OF THIS SEAT. 5 by the template 'for every input the law returns true; each argument reads behind the call as it read before'; 0 by the template 'total and deterministic' (their statements: YtfofkfpoihhdfaaDoorTotals.lean).
  GIVEN WITH THE SEED: the statements are not yours to turn. If you find one false, say at which input.
  Laid BY PROGRAM, IN A SANDBOX (cutbox-rows.mjs): the forced cells as the released guide's own fill.sh prints them over the translation 3f5e84d640a1c6d3… (all of the seat's roots in one cut). By AI agents, Wed Nov 11 2026. No macro, syntax, notation, axiom, sorry.
-/
import Derived.Test.YtfofkfpoihhdfaaDoorChecked
import GoSem.Claim
import GoSem.ClaimJoined
import GoSem.ClaimMapViews
import Derived.JoinedTies
import Derived.KernelRfl
namespace Go.Proofs.YtfofkfpoihhdfaaDoor
/- THE CELL 'sum', in the pinned program and in every row, IS THE sha256 OF THE DUMP (.gsa) THAT YtfofkfpoihhdfaaDoorProg.lean LOADS. Nothing in Lean hashes anything: it is a label: what it is worth is what the hold of that sum in a sandbox is worth. -/
noncomputable def Tryd.pinned : Pinned := { name := "ytfofkfpoihhdfaadoor", sum := "3f5e84d640a1c6d3ce77e21ff67bc33260e32f3f39ad1cbf242409c3a02a82b0", checked := Tryd.checked }
namespace Rows
def none {H : Type} : Left H := { results := [], args := [] }

/- WHAT THE LISTED PACKAGE-LEVEL VARIABLES READ AS WHEN THE CALL BEGINS. Each datum BY PROGRAM (the guide's laid-datum.mjs) off the statement by which the dump's own 'gosem.cut.vars' lays the variable. In a bare row this is a premise. The card (YtfofkfpoihhdfaaDoorCards.lean) ties it to the program's text. -/
def laid_horologe_day_ends {H : Type} : DataW H := .agg [.lit (.int .i64 0), .lit (.int .i64 31), .lit (.int .i64 59), .lit (.int .i64 90), .lit (.int .i64 120), .lit (.int .i64 151), .lit (.int .i64 181), .lit (.int .i64 212), .lit (.int .i64 243), .lit (.int .i64 273), .lit (.int .i64 304), .lit (.int .i64 334), .lit (.int .i64 365)]

/-- 'horologelaw05.DayDates': WHATEVER THE INPUT: true; the input reads as it did. -/
def dayDatesSpec : ChangeSpec := { name := "dayDates", fn := fun _ => fun
  | [d1, d2, d3] => { results := [.lit (.bool true)], args := [d1, d2, d3] }
  | _ => none }
def dayDatesRow : OpenClaim := { program := "ytfofkfpoihhdfaadoor", sum := "3f5e84d640a1c6d3ce77e21ff67bc33260e32f3f39ad1cbf242409c3a02a82b0", func := "horologe/horologelaw05.DayDates", spec := "dayDates", named := ["horologe/day.ends"], apart := false, laid := [("horologe/day.ends", laid_horologe_day_ends)] }
def DayDatesSaid : Prop := dayDatesRow.holds Tryd.pinned (OpenSpec.ofChange dayDatesSpec)

/-- ITS FALSE NEIGHBOUR: 'it returns false'. Refute it at one input. -/
def dayDatesWrong : ChangeSpec := { name := "dayDates", fn := fun _ => fun
  | [d1, d2, d3] => { results := [.lit (.bool false)], args := [d1, d2, d3] }
  | _ => none }
def DayDatesWrongFalsely : Prop := dayDatesRow.holds Tryd.pinned (OpenSpec.ofChange dayDatesWrong)

/-- 'horologelaw05.DayNumbers': WHATEVER THE INPUT: true; the input reads as it did. -/
def dayNumbersSpec : ChangeSpec := { name := "dayNumbers", fn := fun _ => fun
  | [d] => { results := [.lit (.bool true)], args := [d] }
  | _ => none }
def dayNumbersRow : OpenClaim := { program := "ytfofkfpoihhdfaadoor", sum := "3f5e84d640a1c6d3ce77e21ff67bc33260e32f3f39ad1cbf242409c3a02a82b0", func := "horologe/horologelaw05.DayNumbers", spec := "dayNumbers", unfollowed := true, recurses := true, named := ["horologe/day.ends"], apart := false, laid := [("horologe/day.ends", laid_horologe_day_ends)] }
def DayNumbersSaid : Prop := dayNumbersRow.holds Tryd.pinned (OpenSpec.ofChange dayNumbersSpec)

/-- ITS FALSE NEIGHBOUR: 'it returns false'. Refute it at one input. -/
def dayNumbersWrong : ChangeSpec := { name := "dayNumbers", fn := fun _ => fun
  | [d] => { results := [.lit (.bool false)], args := [d] }
  | _ => none }
def DayNumbersWrongFalsely : Prop := dayNumbersRow.holds Tryd.pinned (OpenSpec.ofChange dayNumbersWrong)

/-- 'horologelaw05.DayYears': WHATEVER THE INPUT: true; the input reads as it did. -/
def dayYearsSpec : ChangeSpec := { name := "dayYears", fn := fun _ => fun
  | [d1, d2] => { results := [.lit (.bool true)], args := [d1, d2] }
  | _ => none }
def dayYearsRow : OpenClaim := { program := "ytfofkfpoihhdfaadoor", sum := "3f5e84d640a1c6d3ce77e21ff67bc33260e32f3f39ad1cbf242409c3a02a82b0", func := "horologe/horologelaw05.DayYears", spec := "dayYears", named := ["horologe/day.ends"], apart := false, laid := [("horologe/day.ends", laid_horologe_day_ends)] }
def DayYearsSaid : Prop := dayYearsRow.holds Tryd.pinned (OpenSpec.ofChange dayYearsSpec)

/-- ITS FALSE NEIGHBOUR: 'it returns false'. Refute it at one input. -/
def dayYearsWrong : ChangeSpec := { name := "dayYears", fn := fun _ => fun
  | [d1, d2] => { results := [.lit (.bool false)], args := [d1, d2] }
  | _ => none }
def DayYearsWrongFalsely : Prop := dayYearsRow.holds Tryd.pinned (OpenSpec.ofChange dayYearsWrong)

/-- 'horologelaw05.DayBack': WHATEVER THE INPUT: true; the input reads as it did. -/
def dayBackSpec : ChangeSpec := { name := "dayBack", fn := fun _ => fun
  | [d1, d2] => { results := [.lit (.bool true)], args := [d1, d2] }
  | _ => none }
def dayBackRow : OpenClaim := { program := "ytfofkfpoihhdfaadoor", sum := "3f5e84d640a1c6d3ce77e21ff67bc33260e32f3f39ad1cbf242409c3a02a82b0", func := "horologe/horologelaw05.DayBack", spec := "dayBack", unfollowed := true, recurses := true, named := ["horologe/day.ends"], apart := false, laid := [("horologe/day.ends", laid_horologe_day_ends)] }
def DayBackSaid : Prop := dayBackRow.holds Tryd.pinned (OpenSpec.ofChange dayBackSpec)

/-- ITS FALSE NEIGHBOUR: 'it returns false'. Refute it at one input. -/
def dayBackWrong : ChangeSpec := { name := "dayBack", fn := fun _ => fun
  | [d1, d2] => { results := [.lit (.bool false)], args := [d1, d2] }
  | _ => none }
def DayBackWrongFalsely : Prop := dayBackRow.holds Tryd.pinned (OpenSpec.ofChange dayBackWrong)

/-- 'horologelaw05.DayWeeks': WHATEVER THE INPUT: true; the input reads as it did. -/
def dayWeeksSpec : ChangeSpec := { name := "dayWeeks", fn := fun _ => fun
  | [d1, d2] => { results := [.lit (.bool true)], args := [d1, d2] }
  | _ => none }
def dayWeeksRow : OpenClaim := { program := "ytfofkfpoihhdfaadoor", sum := "3f5e84d640a1c6d3ce77e21ff67bc33260e32f3f39ad1cbf242409c3a02a82b0", func := "horologe/horologelaw05.DayWeeks", spec := "dayWeeks", named := ["horologe/day.ends"], apart := false, laid := [("horologe/day.ends", laid_horologe_day_ends)] }
def DayWeeksSaid : Prop := dayWeeksRow.holds Tryd.pinned (OpenSpec.ofChange dayWeeksSpec)

/-- ITS FALSE NEIGHBOUR: 'it returns false'. Refute it at one input. -/
def dayWeeksWrong : ChangeSpec := { name := "dayWeeks", fn := fun _ => fun
  | [d1, d2] => { results := [.lit (.bool false)], args := [d1, d2] }
  | _ => none }
def DayWeeksWrongFalsely : Prop := dayWeeksRow.holds Tryd.pinned (OpenSpec.ofChange dayWeeksWrong)

/- THE SECOND FORM. 'bulk': how many values and letters a reading holds, each counted each time it is reached (what is shared counts as often as it is met; a slice's spare places count too). A statement '..UptoSaid' is the law's where the arguments, and the package variables that the reading takes, are together of bulk at most 1048576: NARROWER than '..Said'. Prove '..Said' where nothing that the law and all that it calls make is longer than what came in: it says more and counts as full. Else prove '..UptoSaid'. A law counts once. -/
mutual
def uptoBulk {H : Type} : DataW H → Nat
  | .lit (.string bytes) => bytes.length + 1
  | .lit _ => 1
  | .nil => 1
  | .ptr d => uptoBulk d + 1
  | .slice elems spare => uptoBulkAll elems + uptoBulkAll spare + 1
  | .agg parts => uptoBulkAll parts + 1
  | .iface _ d => uptoBulk d + 1
  | .map entries => uptoBulkEntries entries + 1
  | .held _ => 1
def uptoBulkAll {H : Type} : List (DataW H) → Nat
  | [] => 0
  | d :: r => uptoBulk d + uptoBulkAll r
def uptoBulkEntries {H : Type} : List (Lit × DataW H) → Nat
  | [] => 0
  | x :: r => uptoBulkEntry x + uptoBulkEntries r
def uptoBulkEntry {H : Type} : Lit × DataW H → Nat
  | (.string bytes, d) => bytes.length + uptoBulk d + 1
  | (_, d) => uptoBulk d + 1
 end
def uptoSmall : (H : Type) → List (DataW H) → Bool := fun _ ds => decide (uptoBulkAll ds ≤ 1048576)
def OpenSpec.upto (s : _root_.Go.ChangeSpec) : _root_.Go.OpenSpec := { _root_.Go.OpenSpec.ofChange s with cond := some uptoSmall }

/-- 'horologelaw05.DayDates', WHERE WHAT IT READS IS OF BULK AT MOST 1048576: true; the input reads as it did. -/
def dayDatesUptoRow : OpenClaim := { program := "ytfofkfpoihhdfaadoor", sum := "3f5e84d640a1c6d3ce77e21ff67bc33260e32f3f39ad1cbf242409c3a02a82b0", func := "horologe/horologelaw05.DayDates", spec := "dayDates", named := ["horologe/day.ends"], apart := false, laid := [("horologe/day.ends", laid_horologe_day_ends)], narrowed := true }
def DayDatesUptoSaid : Prop := dayDatesUptoRow.holds Tryd.pinned (OpenSpec.upto dayDatesSpec)

/-- 'horologelaw05.DayNumbers', WHERE WHAT IT READS IS OF BULK AT MOST 1048576: true; the input reads as it did. -/
def dayNumbersUptoRow : OpenClaim := { program := "ytfofkfpoihhdfaadoor", sum := "3f5e84d640a1c6d3ce77e21ff67bc33260e32f3f39ad1cbf242409c3a02a82b0", func := "horologe/horologelaw05.DayNumbers", spec := "dayNumbers", unfollowed := true, recurses := true, named := ["horologe/day.ends"], apart := false, laid := [("horologe/day.ends", laid_horologe_day_ends)], narrowed := true }
def DayNumbersUptoSaid : Prop := dayNumbersUptoRow.holds Tryd.pinned (OpenSpec.upto dayNumbersSpec)

/-- 'horologelaw05.DayYears', WHERE WHAT IT READS IS OF BULK AT MOST 1048576: true; the input reads as it did. -/
def dayYearsUptoRow : OpenClaim := { program := "ytfofkfpoihhdfaadoor", sum := "3f5e84d640a1c6d3ce77e21ff67bc33260e32f3f39ad1cbf242409c3a02a82b0", func := "horologe/horologelaw05.DayYears", spec := "dayYears", named := ["horologe/day.ends"], apart := false, laid := [("horologe/day.ends", laid_horologe_day_ends)], narrowed := true }
def DayYearsUptoSaid : Prop := dayYearsUptoRow.holds Tryd.pinned (OpenSpec.upto dayYearsSpec)

/-- 'horologelaw05.DayBack', WHERE WHAT IT READS IS OF BULK AT MOST 1048576: true; the input reads as it did. -/
def dayBackUptoRow : OpenClaim := { program := "ytfofkfpoihhdfaadoor", sum := "3f5e84d640a1c6d3ce77e21ff67bc33260e32f3f39ad1cbf242409c3a02a82b0", func := "horologe/horologelaw05.DayBack", spec := "dayBack", unfollowed := true, recurses := true, named := ["horologe/day.ends"], apart := false, laid := [("horologe/day.ends", laid_horologe_day_ends)], narrowed := true }
def DayBackUptoSaid : Prop := dayBackUptoRow.holds Tryd.pinned (OpenSpec.upto dayBackSpec)

/-- 'horologelaw05.DayWeeks', WHERE WHAT IT READS IS OF BULK AT MOST 1048576: true; the input reads as it did. -/
def dayWeeksUptoRow : OpenClaim := { program := "ytfofkfpoihhdfaadoor", sum := "3f5e84d640a1c6d3ce77e21ff67bc33260e32f3f39ad1cbf242409c3a02a82b0", func := "horologe/horologelaw05.DayWeeks", spec := "dayWeeks", named := ["horologe/day.ends"], apart := false, laid := [("horologe/day.ends", laid_horologe_day_ends)], narrowed := true }
def DayWeeksUptoSaid : Prop := dayWeeksUptoRow.holds Tryd.pinned (OpenSpec.upto dayWeeksSpec)

end Rows
end Go.Proofs.YtfofkfpoihhdfaaDoor
