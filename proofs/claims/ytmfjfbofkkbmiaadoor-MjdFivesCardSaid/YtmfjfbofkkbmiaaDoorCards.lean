/-
  DERIVED. GIVEN WITH THE SEED: THE CARDS: each row of YtmfjfbofkkbmiaaDoorRows.lean that lists a variable, with what it lists TIED to the program's text (the seventh form; the later family's looks); each row that meets fmt, with fmt's text TOLD by the authors' own Lean function (tested against real Go, not proved from fmt's source: count such statements apart). THE CARD IS WHAT COUNTS. Prove the row's statement (the work); the ties are given (YtmfjfbofkkbmiaaDoorTie.lean); close each card by the builder's one call (the guide's Derived/Test/ToyasCard.lean, 'card_holds'). Laid BY PROGRAM, IN A SANDBOX (cutbox-door.mjs). By AI agents, Wed Nov 11 2026. No macro, syntax, notation, axiom, sorry.
-/
import Derived.Test.YtmfjfbofkkbmiaaDoorRows
import GoSem.ClaimSeven
namespace Go.Proofs.YtmfjfbofkkbmiaaDoor
namespace Rows

/-- THE TIED CARD OF 'horologelaw07.MjdCounts'. -/
def mjdCountsCard : Claim7 := { stood := { row := mjdCountsRow, standIns := [], harness := (true, "7217bdd58437c174d67058c0d77322076955f5bffa1f545e3f2387e9f4598c5c"), looks := true }, kinds := [], alts := [], laidByText := true, laidKinds := [.data, .data, .data, .data], laidTests := true, laidLooks := .later }
def MjdCountsCardSaid : Prop := Claim7.holds Tryd.pinned (.plain (OpenSpec.ofChange mjdCountsSpec)) mjdCountsCard

/-- THE TIED CARD OF 'horologelaw07.MjdDays'. -/
def mjdDaysCard : Claim7 := { stood := { row := mjdDaysRow, standIns := [], harness := (true, "7217bdd58437c174d67058c0d77322076955f5bffa1f545e3f2387e9f4598c5c"), looks := true }, kinds := [], alts := [], laidByText := true, laidKinds := [.data], laidTests := true, laidLooks := .later }
def MjdDaysCardSaid : Prop := Claim7.holds Tryd.pinned (.plain (OpenSpec.ofChange mjdDaysSpec)) mjdDaysCard

/-- THE TIED CARD OF 'horologelaw07.MjdFives'. -/
def mjdFivesCard : Claim7 := { stood := { row := mjdFivesRow, standIns := [], harness := (true, "7217bdd58437c174d67058c0d77322076955f5bffa1f545e3f2387e9f4598c5c"), looks := true }, kinds := [], alts := [], laidByText := true, laidKinds := [.data, .data, .data, .data], laidTests := true, laidLooks := .later }
def MjdFivesCardSaid : Prop := Claim7.holds Tryd.pinned (.plain (OpenSpec.ofChange mjdFivesSpec)) mjdFivesCard

/-- THE TIED CARD OF 'horologelaw07.MjdBack'. -/
def mjdBackCard : Claim7 := { stood := { row := mjdBackRow, standIns := [], harness := (true, "7217bdd58437c174d67058c0d77322076955f5bffa1f545e3f2387e9f4598c5c"), looks := true }, kinds := [], alts := [], laidByText := true, laidKinds := [.data, .data, .data, .data], laidTests := true, laidLooks := .later }
def MjdBackCardSaid : Prop := Claim7.holds Tryd.pinned (.plain (OpenSpec.ofChange mjdBackSpec)) mjdBackCard

/-- THE SECOND FORM's CARD OF 'horologelaw07.MjdCounts'. -/
def mjdCountsUptoCard : Claim7 := { stood := { row := mjdCountsUptoRow, standIns := [], harness := (true, "7217bdd58437c174d67058c0d77322076955f5bffa1f545e3f2387e9f4598c5c"), looks := true }, kinds := [], alts := [], laidByText := true, laidKinds := [.data, .data, .data, .data], laidTests := true, laidLooks := .later }
def MjdCountsUptoCardSaid : Prop := Claim7.holds Tryd.pinned (.plain (OpenSpec.upto mjdCountsSpec)) mjdCountsUptoCard

/-- THE SECOND FORM's CARD OF 'horologelaw07.MjdDays'. -/
def mjdDaysUptoCard : Claim7 := { stood := { row := mjdDaysUptoRow, standIns := [], harness := (true, "7217bdd58437c174d67058c0d77322076955f5bffa1f545e3f2387e9f4598c5c"), looks := true }, kinds := [], alts := [], laidByText := true, laidKinds := [.data], laidTests := true, laidLooks := .later }
def MjdDaysUptoCardSaid : Prop := Claim7.holds Tryd.pinned (.plain (OpenSpec.upto mjdDaysSpec)) mjdDaysUptoCard

/-- THE SECOND FORM's CARD OF 'horologelaw07.MjdFives'. -/
def mjdFivesUptoCard : Claim7 := { stood := { row := mjdFivesUptoRow, standIns := [], harness := (true, "7217bdd58437c174d67058c0d77322076955f5bffa1f545e3f2387e9f4598c5c"), looks := true }, kinds := [], alts := [], laidByText := true, laidKinds := [.data, .data, .data, .data], laidTests := true, laidLooks := .later }
def MjdFivesUptoCardSaid : Prop := Claim7.holds Tryd.pinned (.plain (OpenSpec.upto mjdFivesSpec)) mjdFivesUptoCard

/-- THE SECOND FORM's CARD OF 'horologelaw07.MjdBack'. -/
def mjdBackUptoCard : Claim7 := { stood := { row := mjdBackUptoRow, standIns := [], harness := (true, "7217bdd58437c174d67058c0d77322076955f5bffa1f545e3f2387e9f4598c5c"), looks := true }, kinds := [], alts := [], laidByText := true, laidKinds := [.data, .data, .data, .data], laidTests := true, laidLooks := .later }
def MjdBackUptoCardSaid : Prop := Claim7.holds Tryd.pinned (.plain (OpenSpec.upto mjdBackSpec)) mjdBackUptoCard
end Rows
end Go.Proofs.YtmfjfbofkkbmiaaDoor
