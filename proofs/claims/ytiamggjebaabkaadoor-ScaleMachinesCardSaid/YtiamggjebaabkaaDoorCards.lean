/-
  DERIVED. GIVEN WITH THE SEED: THE CARDS: each row of YtiamggjebaabkaaDoorRows.lean that lists a variable, with what it lists TIED to the program's text (the seventh form; the later family's looks); each row that meets fmt, with fmt's text TOLD by the authors' own Lean function (tested against real Go, not proved from fmt's source: count such statements apart). THE CARD IS WHAT COUNTS. Prove the row's statement (the work); the ties are given (YtiamggjebaabkaaDoorTie.lean); close each card by the builder's one call (the guide's Derived/Test/ToyasCard.lean, 'card_holds'). Laid BY PROGRAM, IN A SANDBOX (cutbox-door.mjs). By AI agents, Wed Nov 11 2026. No macro, syntax, notation, axiom, sorry.
-/
import Derived.Test.YtiamggjebaabkaaDoorRows
import GoSem.ClaimSeven
namespace Go.Proofs.YtiamggjebaabkaaDoor
namespace Rows

/-- THE TIED CARD OF 'horologelaw12.ScaleLabels'. -/
def scaleLabelsCard : Claim7 := { stood := { row := scaleLabelsRow, standIns := [], harness := (true, "33a4b2f62aedd2e1bbae2287bee6939f42df7575d947d1e1f397c42bfac1ad98"), looks := true }, kinds := [], alts := [], laidByText := true, laidKinds := [.data], laidTests := true, laidLooks := .later }
def ScaleLabelsCardSaid : Prop := Claim7.holds Tryd.pinned (.plain (OpenSpec.ofChange scaleLabelsSpec)) scaleLabelsCard

/-- THE TIED CARD OF 'horologelaw12.ScaleSeconds'. -/
def scaleSecondsCard : Claim7 := { stood := { row := scaleSecondsRow, standIns := [], harness := (true, "33a4b2f62aedd2e1bbae2287bee6939f42df7575d947d1e1f397c42bfac1ad98"), looks := true }, kinds := [], alts := [], laidByText := true, laidKinds := [.data], laidTests := true, laidLooks := .later }
def ScaleSecondsCardSaid : Prop := Claim7.holds Tryd.pinned (.plain (OpenSpec.ofChange scaleSecondsSpec)) scaleSecondsCard

/-- THE TIED CARD OF 'horologelaw12.ScaleMachines'. -/
def scaleMachinesCard : Claim7 := { stood := { row := scaleMachinesRow, standIns := [], harness := (true, "33a4b2f62aedd2e1bbae2287bee6939f42df7575d947d1e1f397c42bfac1ad98"), looks := true }, kinds := [], alts := [], laidByText := true, laidKinds := [.data], laidTests := true, laidLooks := .later }
def ScaleMachinesCardSaid : Prop := Claim7.holds Tryd.pinned (.plain (OpenSpec.ofChange scaleMachinesSpec)) scaleMachinesCard

/-- THE TIED CARD OF 'horologelaw12.ScaleBack'. -/
def scaleBackCard : Claim7 := { stood := { row := scaleBackRow, standIns := [], harness := (true, "33a4b2f62aedd2e1bbae2287bee6939f42df7575d947d1e1f397c42bfac1ad98"), looks := true }, kinds := [], alts := [], laidByText := true, laidKinds := [.data], laidTests := true, laidLooks := .later }
def ScaleBackCardSaid : Prop := Claim7.holds Tryd.pinned (.plain (OpenSpec.ofChange scaleBackSpec)) scaleBackCard

/-- THE TIED CARD OF 'horologelaw12.ScaleSteps'. -/
def scaleStepsCard : Claim7 := { stood := { row := scaleStepsRow, standIns := [], harness := (true, "33a4b2f62aedd2e1bbae2287bee6939f42df7575d947d1e1f397c42bfac1ad98"), looks := true }, kinds := [], alts := [], laidByText := true, laidKinds := [.data], laidTests := true, laidLooks := .later }
def ScaleStepsCardSaid : Prop := Claim7.holds Tryd.pinned (.plain (OpenSpec.ofChange scaleStepsSpec)) scaleStepsCard

/-- THE SECOND FORM's CARD OF 'horologelaw12.ScaleLabels'. -/
def scaleLabelsUptoCard : Claim7 := { stood := { row := scaleLabelsUptoRow, standIns := [], harness := (true, "33a4b2f62aedd2e1bbae2287bee6939f42df7575d947d1e1f397c42bfac1ad98"), looks := true }, kinds := [], alts := [], laidByText := true, laidKinds := [.data], laidTests := true, laidLooks := .later }
def ScaleLabelsUptoCardSaid : Prop := Claim7.holds Tryd.pinned (.plain (OpenSpec.upto scaleLabelsSpec)) scaleLabelsUptoCard

/-- THE SECOND FORM's CARD OF 'horologelaw12.ScaleSeconds'. -/
def scaleSecondsUptoCard : Claim7 := { stood := { row := scaleSecondsUptoRow, standIns := [], harness := (true, "33a4b2f62aedd2e1bbae2287bee6939f42df7575d947d1e1f397c42bfac1ad98"), looks := true }, kinds := [], alts := [], laidByText := true, laidKinds := [.data], laidTests := true, laidLooks := .later }
def ScaleSecondsUptoCardSaid : Prop := Claim7.holds Tryd.pinned (.plain (OpenSpec.upto scaleSecondsSpec)) scaleSecondsUptoCard

/-- THE SECOND FORM's CARD OF 'horologelaw12.ScaleMachines'. -/
def scaleMachinesUptoCard : Claim7 := { stood := { row := scaleMachinesUptoRow, standIns := [], harness := (true, "33a4b2f62aedd2e1bbae2287bee6939f42df7575d947d1e1f397c42bfac1ad98"), looks := true }, kinds := [], alts := [], laidByText := true, laidKinds := [.data], laidTests := true, laidLooks := .later }
def ScaleMachinesUptoCardSaid : Prop := Claim7.holds Tryd.pinned (.plain (OpenSpec.upto scaleMachinesSpec)) scaleMachinesUptoCard

/-- THE SECOND FORM's CARD OF 'horologelaw12.ScaleBack'. -/
def scaleBackUptoCard : Claim7 := { stood := { row := scaleBackUptoRow, standIns := [], harness := (true, "33a4b2f62aedd2e1bbae2287bee6939f42df7575d947d1e1f397c42bfac1ad98"), looks := true }, kinds := [], alts := [], laidByText := true, laidKinds := [.data], laidTests := true, laidLooks := .later }
def ScaleBackUptoCardSaid : Prop := Claim7.holds Tryd.pinned (.plain (OpenSpec.upto scaleBackSpec)) scaleBackUptoCard

/-- THE SECOND FORM's CARD OF 'horologelaw12.ScaleSteps'. -/
def scaleStepsUptoCard : Claim7 := { stood := { row := scaleStepsUptoRow, standIns := [], harness := (true, "33a4b2f62aedd2e1bbae2287bee6939f42df7575d947d1e1f397c42bfac1ad98"), looks := true }, kinds := [], alts := [], laidByText := true, laidKinds := [.data], laidTests := true, laidLooks := .later }
def ScaleStepsUptoCardSaid : Prop := Claim7.holds Tryd.pinned (.plain (OpenSpec.upto scaleStepsSpec)) scaleStepsUptoCard
end Rows
end Go.Proofs.YtiamggjebaabkaaDoor
