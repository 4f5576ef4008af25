/-
  DERIVED. GIVEN WITH THE SEED: THE CARDS: each row of YtkhcneacjnpcnaaDoorRows.lean that lists a variable, with what it lists TIED to the program's text (the seventh form; the later family's looks); each row that meets fmt, with fmt's text TOLD by the authors' own Lean function (tested against real Go, not proved from fmt's source: count such statements apart). THE CARD IS WHAT COUNTS. Prove the row's statement (the work); the ties are given (YtkhcneacjnpcnaaDoorTie.lean); close each card by the builder's one call (the guide's Derived/Test/ToyasCard.lean, 'card_holds'). Laid BY PROGRAM, IN A SANDBOX (cutbox-door.mjs). By AI agents, Wed Nov 11 2026. No macro, syntax, notation, axiom, sorry.
-/
import Derived.Test.YtkhcneacjnpcnaaDoorRows
import GoSem.ClaimSeven
namespace Go.Proofs.YtkhcneacjnpcnaaDoor
namespace Rows

/-- THE TIED CARD OF 'horologelaw17.PosixBack'. -/
def posixBackCard : Claim7 := { stood := { row := posixBackRow, standIns := [], harness := (true, "0d343875c654940451e56edc872e8c2076c7860a5d16e64889ac76d385177c5b"), looks := false }, kinds := [], alts := [], laidByText := true, laidKinds := [.data, .data, .data], laidTests := true, laidLooks := .later }
def PosixBackCardSaid : Prop := Claim7.holds Tryd.pinned (.plain (OpenSpec.ofChange posixBackSpec)) posixBackCard

/-- THE SECOND FORM's CARD OF 'horologelaw17.PosixBack'. -/
def posixBackUptoCard : Claim7 := { stood := { row := posixBackUptoRow, standIns := [], harness := (true, "0d343875c654940451e56edc872e8c2076c7860a5d16e64889ac76d385177c5b"), looks := false }, kinds := [], alts := [], laidByText := true, laidKinds := [.data, .data, .data], laidTests := true, laidLooks := .later }
def PosixBackUptoCardSaid : Prop := Claim7.holds Tryd.pinned (.plain (OpenSpec.upto posixBackSpec)) posixBackUptoCard
end Rows
end Go.Proofs.YtkhcneacjnpcnaaDoor
