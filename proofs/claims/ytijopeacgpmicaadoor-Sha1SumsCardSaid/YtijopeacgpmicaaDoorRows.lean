/-
  NARROWER THAN 'FOR EVERY INPUT', by the rows' own cells (each row's printed sentence says how): Sha1Sums: laid · Sha1Steps: laid · Sha1Parts: laid.
  DERIVED. THE GIVEN ROWS OF THIS SEAT. 3 by the template 'for every input the law returns true; each argument reads behind the call as it read before'; 0 by the template 'total and deterministic' (their statements: YtijopeacgpmicaaDoorTotals.lean).
  GIVEN WITH THE SEED: the statements are not yours to turn. If you find one false, say at which input.
  Laid BY PROGRAM, IN A SANDBOX (cutbox-rows.mjs): the forced cells as the released guide's own fill.sh prints them over the translation 9bfa427e9035f2d6… (all of the seat's roots in one cut). By AI agents, Wed Nov 11 2026. No macro, syntax, notation, axiom, sorry.
-/
import Derived.Test.YtijopeacgpmicaaDoorChecked
import GoSem.Claim
import GoSem.ClaimJoined
import GoSem.ClaimMapViews
import Derived.JoinedTies
import Derived.KernelRfl
namespace Go.Proofs.YtijopeacgpmicaaDoor
/- THE CELL 'sum', in the pinned program and in every row, IS THE sha256 OF THE DUMP (.gsa) THAT YtijopeacgpmicaaDoorProg.lean LOADS. Nothing in Lean hashes anything: it is a label: what it is worth is what the hold of that sum in a sandbox is worth. -/
noncomputable def Tryd.pinned : Pinned := { name := "ytijopeacgpmicaadoor", sum := "9bfa427e9035f2d670303fecbe22b334e1ae87452381d7dcf8de550a764b8475", checked := Tryd.checked }
namespace Rows
def none {H : Type} : Left H := { results := [], args := [] }

/- WHAT THE LISTED PACKAGE-LEVEL VARIABLES READ AS WHEN THE CALL BEGINS. Each datum BY PROGRAM (the guide's laid-datum.mjs) off the statement by which the dump's own 'gosem.cut.vars' lays the variable. In a bare row this is a premise. The card (YtijopeacgpmicaaDoorCards.lean) ties it to the program's text. -/
def laid_horologe_sha1_start {H : Type} : DataW H := .agg [.lit (.int .u32 1732584193), .lit (.int .u32 4023233417), .lit (.int .u32 2562383102), .lit (.int .u32 271733878), .lit (.int .u32 3285377520)]

/-- 'horologelaw09.Sha1Sums': WHATEVER THE INPUT: true; the input reads as it did. -/
def sha1SumsSpec : ChangeSpec := { name := "sha1Sums", fn := fun _ => fun
  | [d] => { results := [.lit (.bool true)], args := [d] }
  | _ => none }
def sha1SumsRow : OpenClaim := { program := "ytijopeacgpmicaadoor", sum := "9bfa427e9035f2d670303fecbe22b334e1ae87452381d7dcf8de550a764b8475", func := "horologe/horologelaw09.Sha1Sums", spec := "sha1Sums", unfollowed := true, recurses := true, named := ["horologe/sha1.start"], apart := false, laid := [("horologe/sha1.start", laid_horologe_sha1_start)] }
def Sha1SumsSaid : Prop := sha1SumsRow.holds Tryd.pinned (OpenSpec.ofChange sha1SumsSpec)

/-- ITS FALSE NEIGHBOUR: 'it returns false'. Refute it at one input. -/
def sha1SumsWrong : ChangeSpec := { name := "sha1Sums", fn := fun _ => fun
  | [d] => { results := [.lit (.bool false)], args := [d] }
  | _ => none }
def Sha1SumsWrongFalsely : Prop := sha1SumsRow.holds Tryd.pinned (OpenSpec.ofChange sha1SumsWrong)

/-- 'horologelaw09.Sha1Steps': WHATEVER THE INPUT: true; the input reads as it did. -/
def sha1StepsSpec : ChangeSpec := { name := "sha1Steps", fn := fun _ => fun
  | [d1, d2, d3] => { results := [.lit (.bool true)], args := [d1, d2, d3] }
  | _ => none }
def sha1StepsRow : OpenClaim := { program := "ytijopeacgpmicaadoor", sum := "9bfa427e9035f2d670303fecbe22b334e1ae87452381d7dcf8de550a764b8475", func := "horologe/horologelaw09.Sha1Steps", spec := "sha1Steps", unfollowed := true, recurses := true, named := ["horologe/sha1.start"], apart := false, laid := [("horologe/sha1.start", laid_horologe_sha1_start)] }
def Sha1StepsSaid : Prop := sha1StepsRow.holds Tryd.pinned (OpenSpec.ofChange sha1StepsSpec)

/-- ITS FALSE NEIGHBOUR: 'it returns false'. Refute it at one input. -/
def sha1StepsWrong : ChangeSpec := { name := "sha1Steps", fn := fun _ => fun
  | [d1, d2, d3] => { results := [.lit (.bool false)], args := [d1, d2, d3] }
  | _ => none }
def Sha1StepsWrongFalsely : Prop := sha1StepsRow.holds Tryd.pinned (OpenSpec.ofChange sha1StepsWrong)

/-- 'horologelaw09.Sha1Parts': WHATEVER THE INPUT: true; the input reads as it did. -/
def sha1PartsSpec : ChangeSpec := { name := "sha1Parts", fn := fun _ => fun
  | [d1, d2] => { results := [.lit (.bool true)], args := [d1, d2] }
  | _ => none }
def sha1PartsRow : OpenClaim := { program := "ytijopeacgpmicaadoor", sum := "9bfa427e9035f2d670303fecbe22b334e1ae87452381d7dcf8de550a764b8475", func := "horologe/horologelaw09.Sha1Parts", spec := "sha1Parts", unfollowed := true, recurses := true, named := ["horologe/sha1.start"], apart := false, laid := [("horologe/sha1.start", laid_horologe_sha1_start)] }
def Sha1PartsSaid : Prop := sha1PartsRow.holds Tryd.pinned (OpenSpec.ofChange sha1PartsSpec)

/-- ITS FALSE NEIGHBOUR: 'it returns false'. Refute it at one input. -/
def sha1PartsWrong : ChangeSpec := { name := "sha1Parts", fn := fun _ => fun
  | [d1, d2] => { results := [.lit (.bool false)], args := [d1, d2] }
  | _ => none }
def Sha1PartsWrongFalsely : Prop := sha1PartsRow.holds Tryd.pinned (OpenSpec.ofChange sha1PartsWrong)

/- THE SECOND FORM. 'bulk': how many values and letters a reading holds, each counted each time it is reached (what is shared counts as often as it is met; a slice's spare places count too). A statement '..UptoSaid' is the law's where the arguments, and the package variables that the reading takes, are together of bulk at most 1048576: NARROWER than '..Said'. Prove '..Said' where nothing that the law and all that it calls make is longer than what came in: it says more and counts as full. Else prove '..UptoSaid'. A law counts once. -/
mutual
def uptoBulk {H : Type} : DataW H → Nat
  | .lit (.string bytes) => bytes.length + 1
  | .lit _ => 1
  | .nil => 1
  | .ptr d => uptoBulk d + 1
  | .slice elems spare => uptoBulkAll elems + uptoBulkAll spare + 1
  | .agg parts => uptoBulkAll parts + 1
  | .iface _ d => uptoBulk d + 1
  | .map entries => uptoBulkEntries entries + 1
  | .held _ => 1
def uptoBulkAll {H : Type} : List (DataW H) → Nat
  | [] => 0
  | d :: r => uptoBulk d + uptoBulkAll r
def uptoBulkEntries {H : Type} : List (Lit × DataW H) → Nat
  | [] => 0
  | x :: r => uptoBulkEntry x + uptoBulkEntries r
def uptoBulkEntry {H : Type} : Lit × DataW H → Nat
  | (.string bytes, d) => bytes.length + uptoBulk d + 1
  | (_, d) => uptoBulk d + 1
 end
def uptoSmall : (H : Type) → List (DataW H) → Bool := fun _ ds => decide (uptoBulkAll ds ≤ 1048576)
def OpenSpec.upto (s : _root_.Go.ChangeSpec) : _root_.Go.OpenSpec := { _root_.Go.OpenSpec.ofChange s with cond := some uptoSmall }

/-- 'horologelaw09.Sha1Sums', WHERE WHAT IT READS IS OF BULK AT MOST 1048576: true; the input reads as it did. -/
def sha1SumsUptoRow : OpenClaim := { program := "ytijopeacgpmicaadoor", sum := "9bfa427e9035f2d670303fecbe22b334e1ae87452381d7dcf8de550a764b8475", func := "horologe/horologelaw09.Sha1Sums", spec := "sha1Sums", unfollowed := true, recurses := true, named := ["horologe/sha1.start"], apart := false, laid := [("horologe/sha1.start", laid_horologe_sha1_start)], narrowed := true }
def Sha1SumsUptoSaid : Prop := sha1SumsUptoRow.holds Tryd.pinned (OpenSpec.upto sha1SumsSpec)

/-- 'horologelaw09.Sha1Steps', WHERE WHAT IT READS IS OF BULK AT MOST 1048576: true; the input reads as it did. -/
def sha1StepsUptoRow : OpenClaim := { program := "ytijopeacgpmicaadoor", sum := "9bfa427e9035f2d670303fecbe22b334e1ae87452381d7dcf8de550a764b8475", func := "horologe/horologelaw09.Sha1Steps", spec := "sha1Steps", unfollowed := true, recurses := true, named := ["horologe/sha1.start"], apart := false, laid := [("horologe/sha1.start", laid_horologe_sha1_start)], narrowed := true }
def Sha1StepsUptoSaid : Prop := sha1StepsUptoRow.holds Tryd.pinned (OpenSpec.upto sha1StepsSpec)

/-- 'horologelaw09.Sha1Parts', WHERE WHAT IT READS IS OF BULK AT MOST 1048576: true; the input reads as it did. -/
def sha1PartsUptoRow : OpenClaim := { program := "ytijopeacgpmicaadoor", sum := "9bfa427e9035f2d670303fecbe22b334e1ae87452381d7dcf8de550a764b8475", func := "horologe/horologelaw09.Sha1Parts", spec := "sha1Parts", unfollowed := true, recurses := true, named := ["horologe/sha1.start"], apart := false, laid := [("horologe/sha1.start", laid_horologe_sha1_start)], narrowed := true }
def Sha1PartsUptoSaid : Prop := sha1PartsUptoRow.holds Tryd.pinned (OpenSpec.upto sha1PartsSpec)

end Rows
end Go.Proofs.YtijopeacgpmicaaDoor
