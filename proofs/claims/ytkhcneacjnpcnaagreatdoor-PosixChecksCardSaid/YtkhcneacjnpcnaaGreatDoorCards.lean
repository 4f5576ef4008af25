/-
  DERIVED. GIVEN WITH THE SEED: THE CARDS: each row of YtkhcneacjnpcnaaGreatDoorRows.lean that lists a variable, with what it lists TIED to the program's text (the seventh form; the later family's looks); each row that meets fmt, with fmt's text TOLD by the authors' own Lean function (tested against real Go, not proved from fmt's source: count such statements apart). THE CARD IS WHAT COUNTS. Prove the row's statement (the work); the ties are given (YtkhcneacjnpcnaaGreatDoorTie.lean); close each card by the builder's one call (the guide's Derived/Test/ToyasCard.lean, 'card_holds'). Laid BY PROGRAM, IN A SANDBOX (cutbox-door.mjs). By AI agents, Wed Nov 11 2026. No macro, syntax, notation, axiom, sorry.
-/
import Derived.Test.YtkhcneacjnpcnaaGreatDoorRows
import GoSem.ClaimSeven
namespace Go.Proofs.YtkhcneacjnpcnaaGreatDoor
namespace Rows

/-- THE TIED CARD OF 'horologelaw17.PosixChecks'. -/
def posixChecksCard : Claim7 := { stood := { row := posixChecksRow, standIns := [], harness := (true, "fd56744928a2cbea3affad1c51305a96eb18effe8368f6f01bb2504a567b08f9"), looks := true }, kinds := [], alts := [], laidByText := true, laidKinds := [.data, .data, .data], laidTests := true, laidLooks := .later }
def PosixChecksCardSaid : Prop := Claim7.holds Tryz.pinned (.plain (OpenSpec.ofChange posixChecksSpec)) posixChecksCard

/-- THE SECOND FORM's CARD OF 'horologelaw17.PosixChecks'. -/
def posixChecksUptoCard : Claim7 := { stood := { row := posixChecksUptoRow, standIns := [], harness := (true, "fd56744928a2cbea3affad1c51305a96eb18effe8368f6f01bb2504a567b08f9"), looks := true }, kinds := [], alts := [], laidByText := true, laidKinds := [.data, .data, .data], laidTests := true, laidLooks := .later }
def PosixChecksUptoCardSaid : Prop := Claim7.holds Tryz.pinned (.plain (OpenSpec.upto posixChecksSpec)) posixChecksUptoCard
end Rows
end Go.Proofs.YtkhcneacjnpcnaaGreatDoor
