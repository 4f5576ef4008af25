/-
  DERIVED. GIVEN WITH THE SEED: THE CARDS: each row of YtfofkfpoihhdfaaDoorRows.lean that lists a variable, with what it lists TIED to the program's text (the seventh form; the later family's looks); each row that meets fmt, with fmt's text TOLD by the authors' own Lean function (tested against real Go, not proved from fmt's source: count such statements apart). THE CARD IS WHAT COUNTS. Prove the row's statement (the work); the ties are given (YtfofkfpoihhdfaaDoorTie.lean); close each card by the builder's one call (the guide's Derived/Test/ToyasCard.lean, 'card_holds'). Laid BY PROGRAM, IN A SANDBOX (cutbox-door.mjs). By AI agents, Wed Nov 11 2026. No macro, syntax, notation, axiom, sorry.
-/
import Derived.Test.YtfofkfpoihhdfaaDoorRows
import GoSem.ClaimSeven
namespace Go.Proofs.YtfofkfpoihhdfaaDoor
namespace Rows

/-- THE TIED CARD OF 'horologelaw05.DayDates'. -/
def dayDatesCard : Claim7 := { stood := { row := dayDatesRow, standIns := [], harness := (true, "84754331bc838b210b24d9b1203bd57853b9a5376da6d0162b8d15d1df6dec7e"), looks := true }, kinds := [], alts := [], laidByText := true, laidKinds := [.data], laidTests := true, laidLooks := .later }
def DayDatesCardSaid : Prop := Claim7.holds Tryd.pinned (.plain (OpenSpec.ofChange dayDatesSpec)) dayDatesCard

/-- THE TIED CARD OF 'horologelaw05.DayNumbers'. -/
def dayNumbersCard : Claim7 := { stood := { row := dayNumbersRow, standIns := [], harness := (true, "84754331bc838b210b24d9b1203bd57853b9a5376da6d0162b8d15d1df6dec7e"), looks := true }, kinds := [], alts := [], laidByText := true, laidKinds := [.data], laidTests := true, laidLooks := .later }
def DayNumbersCardSaid : Prop := Claim7.holds Tryd.pinned (.plain (OpenSpec.ofChange dayNumbersSpec)) dayNumbersCard

/-- THE TIED CARD OF 'horologelaw05.DayYears'. -/
def dayYearsCard : Claim7 := { stood := { row := dayYearsRow, standIns := [], harness := (true, "84754331bc838b210b24d9b1203bd57853b9a5376da6d0162b8d15d1df6dec7e"), looks := true }, kinds := [], alts := [], laidByText := true, laidKinds := [.data], laidTests := true, laidLooks := .later }
def DayYearsCardSaid : Prop := Claim7.holds Tryd.pinned (.plain (OpenSpec.ofChange dayYearsSpec)) dayYearsCard

/-- THE TIED CARD OF 'horologelaw05.DayBack'. -/
def dayBackCard : Claim7 := { stood := { row := dayBackRow, standIns := [], harness := (true, "84754331bc838b210b24d9b1203bd57853b9a5376da6d0162b8d15d1df6dec7e"), looks := true }, kinds := [], alts := [], laidByText := true, laidKinds := [.data], laidTests := true, laidLooks := .later }
def DayBackCardSaid : Prop := Claim7.holds Tryd.pinned (.plain (OpenSpec.ofChange dayBackSpec)) dayBackCard

/-- THE TIED CARD OF 'horologelaw05.DayWeeks'. -/
def dayWeeksCard : Claim7 := { stood := { row := dayWeeksRow, standIns := [], harness := (true, "84754331bc838b210b24d9b1203bd57853b9a5376da6d0162b8d15d1df6dec7e"), looks := true }, kinds := [], alts := [], laidByText := true, laidKinds := [.data], laidTests := true, laidLooks := .later }
def DayWeeksCardSaid : Prop := Claim7.holds Tryd.pinned (.plain (OpenSpec.ofChange dayWeeksSpec)) dayWeeksCard

/-- THE SECOND FORM's CARD OF 'horologelaw05.DayDates'. -/
def dayDatesUptoCard : Claim7 := { stood := { row := dayDatesUptoRow, standIns := [], harness := (true, "84754331bc838b210b24d9b1203bd57853b9a5376da6d0162b8d15d1df6dec7e"), looks := true }, kinds := [], alts := [], laidByText := true, laidKinds := [.data], laidTests := true, laidLooks := .later }
def DayDatesUptoCardSaid : Prop := Claim7.holds Tryd.pinned (.plain (OpenSpec.upto dayDatesSpec)) dayDatesUptoCard

/-- THE SECOND FORM's CARD OF 'horologelaw05.DayNumbers'. -/
def dayNumbersUptoCard : Claim7 := { stood := { row := dayNumbersUptoRow, standIns := [], harness := (true, "84754331bc838b210b24d9b1203bd57853b9a5376da6d0162b8d15d1df6dec7e"), looks := true }, kinds := [], alts := [], laidByText := true, laidKinds := [.data], laidTests := true, laidLooks := .later }
def DayNumbersUptoCardSaid : Prop := Claim7.holds Tryd.pinned (.plain (OpenSpec.upto dayNumbersSpec)) dayNumbersUptoCard

/-- THE SECOND FORM's CARD OF 'horologelaw05.DayYears'. -/
def dayYearsUptoCard : Claim7 := { stood := { row := dayYearsUptoRow, standIns := [], harness := (true, "84754331bc838b210b24d9b1203bd57853b9a5376da6d0162b8d15d1df6dec7e"), looks := true }, kinds := [], alts := [], laidByText := true, laidKinds := [.data], laidTests := true, laidLooks := .later }
def DayYearsUptoCardSaid : Prop := Claim7.holds Tryd.pinned (.plain (OpenSpec.upto dayYearsSpec)) dayYearsUptoCard

/-- THE SECOND FORM's CARD OF 'horologelaw05.DayBack'. -/
def dayBackUptoCard : Claim7 := { stood := { row := dayBackUptoRow, standIns := [], harness := (true, "84754331bc838b210b24d9b1203bd57853b9a5376da6d0162b8d15d1df6dec7e"), looks := true }, kinds := [], alts := [], laidByText := true, laidKinds := [.data], laidTests := true, laidLooks := .later }
def DayBackUptoCardSaid : Prop := Claim7.holds Tryd.pinned (.plain (OpenSpec.upto dayBackSpec)) dayBackUptoCard

/-- THE SECOND FORM's CARD OF 'horologelaw05.DayWeeks'. -/
def dayWeeksUptoCard : Claim7 := { stood := { row := dayWeeksUptoRow, standIns := [], harness := (true, "84754331bc838b210b24d9b1203bd57853b9a5376da6d0162b8d15d1df6dec7e"), looks := true }, kinds := [], alts := [], laidByText := true, laidKinds := [.data], laidTests := true, laidLooks := .later }
def DayWeeksUptoCardSaid : Prop := Claim7.holds Tryd.pinned (.plain (OpenSpec.upto dayWeeksSpec)) dayWeeksUptoCard
end Rows
end Go.Proofs.YtfofkfpoihhdfaaDoor
