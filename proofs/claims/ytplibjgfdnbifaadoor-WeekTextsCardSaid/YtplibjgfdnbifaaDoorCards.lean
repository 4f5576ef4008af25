/-
  DERIVED. GIVEN WITH THE SEED: THE CARDS: each row of YtplibjgfdnbifaaDoorRows.lean that lists a variable, with what it lists TIED to the program's text (the seventh form; the later family's looks); each row that meets fmt, with fmt's text TOLD by the authors' own Lean function (tested against real Go, not proved from fmt's source: count such statements apart). THE CARD IS WHAT COUNTS. Prove the row's statement (the work); the ties are given (YtplibjgfdnbifaaDoorTie.lean); close each card by the builder's one call (the guide's Derived/Test/ToyasCard.lean, 'card_holds'). Laid BY PROGRAM, IN A SANDBOX (cutbox-door.mjs). By AI agents, Wed Nov 11 2026. No macro, syntax, notation, axiom, sorry.
-/
import Derived.Test.YtplibjgfdnbifaaDoorRows
import GoSem.ClaimSeven
namespace Go.Proofs.YtplibjgfdnbifaaDoor
namespace Rows

/-- THE TIED CARD OF 'horologelaw06.WeekDays'. -/
def weekDaysCard : Claim7 := { stood := { row := weekDaysRow, standIns := [], harness := (true, "e08f594c37558b25ad86df2410191a48619290bf8419ee5246de20c88b5222f2"), looks := true }, kinds := [], alts := [], laidByText := true, laidKinds := [.data, .data, .data, .data], laidTests := true, laidLooks := .later }
def WeekDaysCardSaid : Prop := Claim7.holds Tryd.pinned (.plain (OpenSpec.ofChange weekDaysSpec)) weekDaysCard

/-- THE TIED CARD OF 'horologelaw06.WeekYears'. -/
def weekYearsCard : Claim7 := { stood := { row := weekYearsRow, standIns := [], harness := (true, "e08f594c37558b25ad86df2410191a48619290bf8419ee5246de20c88b5222f2"), looks := true }, kinds := [], alts := [], laidByText := true, laidKinds := [.data, .data, .data, .data], laidTests := true, laidLooks := .later }
def WeekYearsCardSaid : Prop := Claim7.holds Tryd.pinned (.plain (OpenSpec.ofChange weekYearsSpec)) weekYearsCard

/-- THE TIED CARD OF 'horologelaw06.WeekTexts'. -/
def weekTextsCard : Claim7 := { stood := { row := weekTextsRow, standIns := [], harness := (true, "e08f594c37558b25ad86df2410191a48619290bf8419ee5246de20c88b5222f2"), looks := true }, kinds := [], alts := [], laidByText := true, laidKinds := [.data, .data, .data, .data], laidTests := true, laidLooks := .later }
def WeekTextsCardSaid : Prop := Claim7.holds Tryd.pinned (.plain (OpenSpec.ofChange weekTextsSpec)) weekTextsCard

/-- THE TIED CARD OF 'horologelaw06.WeekBack'. -/
def weekBackCard : Claim7 := { stood := { row := weekBackRow, standIns := [], harness := (true, "e08f594c37558b25ad86df2410191a48619290bf8419ee5246de20c88b5222f2"), looks := true }, kinds := [], alts := [], laidByText := true, laidKinds := [.data, .data, .data, .data], laidTests := true, laidLooks := .later }
def WeekBackCardSaid : Prop := Claim7.holds Tryd.pinned (.plain (OpenSpec.ofChange weekBackSpec)) weekBackCard

/-- THE SECOND FORM's CARD OF 'horologelaw06.WeekDays'. -/
def weekDaysUptoCard : Claim7 := { stood := { row := weekDaysUptoRow, standIns := [], harness := (true, "e08f594c37558b25ad86df2410191a48619290bf8419ee5246de20c88b5222f2"), looks := true }, kinds := [], alts := [], laidByText := true, laidKinds := [.data, .data, .data, .data], laidTests := true, laidLooks := .later }
def WeekDaysUptoCardSaid : Prop := Claim7.holds Tryd.pinned (.plain (OpenSpec.upto weekDaysSpec)) weekDaysUptoCard

/-- THE SECOND FORM's CARD OF 'horologelaw06.WeekYears'. -/
def weekYearsUptoCard : Claim7 := { stood := { row := weekYearsUptoRow, standIns := [], harness := (true, "e08f594c37558b25ad86df2410191a48619290bf8419ee5246de20c88b5222f2"), looks := true }, kinds := [], alts := [], laidByText := true, laidKinds := [.data, .data, .data, .data], laidTests := true, laidLooks := .later }
def WeekYearsUptoCardSaid : Prop := Claim7.holds Tryd.pinned (.plain (OpenSpec.upto weekYearsSpec)) weekYearsUptoCard

/-- THE SECOND FORM's CARD OF 'horologelaw06.WeekTexts'. -/
def weekTextsUptoCard : Claim7 := { stood := { row := weekTextsUptoRow, standIns := [], harness := (true, "e08f594c37558b25ad86df2410191a48619290bf8419ee5246de20c88b5222f2"), looks := true }, kinds := [], alts := [], laidByText := true, laidKinds := [.data, .data, .data, .data], laidTests := true, laidLooks := .later }
def WeekTextsUptoCardSaid : Prop := Claim7.holds Tryd.pinned (.plain (OpenSpec.upto weekTextsSpec)) weekTextsUptoCard

/-- THE SECOND FORM's CARD OF 'horologelaw06.WeekBack'. -/
def weekBackUptoCard : Claim7 := { stood := { row := weekBackUptoRow, standIns := [], harness := (true, "e08f594c37558b25ad86df2410191a48619290bf8419ee5246de20c88b5222f2"), looks := true }, kinds := [], alts := [], laidByText := true, laidKinds := [.data, .data, .data, .data], laidTests := true, laidLooks := .later }
def WeekBackUptoCardSaid : Prop := Claim7.holds Tryd.pinned (.plain (OpenSpec.upto weekBackSpec)) weekBackUptoCard
end Rows
end Go.Proofs.YtplibjgfdnbifaaDoor
