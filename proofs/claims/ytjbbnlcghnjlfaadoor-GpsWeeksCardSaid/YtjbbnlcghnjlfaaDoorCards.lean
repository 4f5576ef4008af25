/-
  DERIVED. GIVEN WITH THE SEED: THE CARDS: each row of YtjbbnlcghnjlfaaDoorRows.lean that lists a variable, with what it lists TIED to the program's text (the seventh form; the later family's looks); each row that meets fmt, with fmt's text TOLD by the authors' own Lean function (tested against real Go, not proved from fmt's source: count such statements apart). THE CARD IS WHAT COUNTS. Prove the row's statement (the work); the ties are given (YtjbbnlcghnjlfaaDoorTie.lean); close each card by the builder's one call (the guide's Derived/Test/ToyasCard.lean, 'card_holds'). Laid BY PROGRAM, IN A SANDBOX (cutbox-door.mjs). By AI agents, Wed Nov 11 2026. No macro, syntax, notation, axiom, sorry.
-/
import Derived.Test.YtjbbnlcghnjlfaaDoorRows
import GoSem.ClaimSeven
namespace Go.Proofs.YtjbbnlcghnjlfaaDoor
namespace Rows

/-- THE TIED CARD OF 'horologelaw14.GpsWeeks'. -/
def gpsWeeksCard : Claim7 := { stood := { row := gpsWeeksRow, standIns := [], harness := (true, "7a2eb5ebae79d0449213503afe1fa2fcc5bcbaa764a2a0c2379810d456f7cfe6"), looks := true }, kinds := [], alts := [], laidByText := true, laidKinds := [.data, .data, .data], laidTests := true, laidLooks := .later }
def GpsWeeksCardSaid : Prop := Claim7.holds Tryd.pinned (.plain (OpenSpec.ofChange gpsWeeksSpec)) gpsWeeksCard

/-- THE TIED CARD OF 'horologelaw14.GpsBack'. -/
def gpsBackCard : Claim7 := { stood := { row := gpsBackRow, standIns := [], harness := (true, "7a2eb5ebae79d0449213503afe1fa2fcc5bcbaa764a2a0c2379810d456f7cfe6"), looks := true }, kinds := [], alts := [], laidByText := true, laidKinds := [.data, .data, .data], laidTests := true, laidLooks := .later }
def GpsBackCardSaid : Prop := Claim7.holds Tryd.pinned (.plain (OpenSpec.ofChange gpsBackSpec)) gpsBackCard

/-- THE SECOND FORM's CARD OF 'horologelaw14.GpsWeeks'. -/
def gpsWeeksUptoCard : Claim7 := { stood := { row := gpsWeeksUptoRow, standIns := [], harness := (true, "7a2eb5ebae79d0449213503afe1fa2fcc5bcbaa764a2a0c2379810d456f7cfe6"), looks := true }, kinds := [], alts := [], laidByText := true, laidKinds := [.data, .data, .data], laidTests := true, laidLooks := .later }
def GpsWeeksUptoCardSaid : Prop := Claim7.holds Tryd.pinned (.plain (OpenSpec.upto gpsWeeksSpec)) gpsWeeksUptoCard

/-- THE SECOND FORM's CARD OF 'horologelaw14.GpsBack'. -/
def gpsBackUptoCard : Claim7 := { stood := { row := gpsBackUptoRow, standIns := [], harness := (true, "7a2eb5ebae79d0449213503afe1fa2fcc5bcbaa764a2a0c2379810d456f7cfe6"), looks := true }, kinds := [], alts := [], laidByText := true, laidKinds := [.data, .data, .data], laidTests := true, laidLooks := .later }
def GpsBackUptoCardSaid : Prop := Claim7.holds Tryd.pinned (.plain (OpenSpec.upto gpsBackSpec)) gpsBackUptoCard
end Rows
end Go.Proofs.YtjbbnlcghnjlfaaDoor
