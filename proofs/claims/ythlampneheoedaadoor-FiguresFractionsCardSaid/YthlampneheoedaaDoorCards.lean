/-
  DERIVED. GIVEN WITH THE SEED: THE CARDS: each row of YthlampneheoedaaDoorRows.lean that lists a variable, with what it lists TIED to the program's text (the seventh form; the later family's looks); each row that meets fmt, with fmt's text TOLD by the authors' own Lean function (tested against real Go, not proved from fmt's source: count such statements apart). THE CARD IS WHAT COUNTS. Prove the row's statement (the work); the ties are given (YthlampneheoedaaDoorTie.lean); close each card by the builder's one call (the guide's Derived/Test/ToyasCard.lean, 'card_holds'). Laid BY PROGRAM, IN A SANDBOX (cutbox-door.mjs). By AI agents, Wed Nov 11 2026. No macro, syntax, notation, axiom, sorry.
-/
import Derived.Test.YthlampneheoedaaDoorRows
import GoSem.ClaimSeven
namespace Go.Proofs.YthlampneheoedaaDoor
namespace Rows

/-- THE TIED CARD OF 'horologelaw02.FiguresPuts'. -/
def figuresPutsCard : Claim7 := { stood := { row := figuresPutsRow, standIns := [], harness := (true, "d51995f6216bc8112884fbc7e854108c1b141fd2e0edb83befa349f808b502a3"), looks := true }, kinds := [], alts := [], laidByText := true, laidKinds := [.data, .data, .data], laidTests := true, laidLooks := .later }
def FiguresPutsCardSaid : Prop := Claim7.holds Tryd.pinned (.plain (OpenSpec.ofChange figuresPutsSpec)) figuresPutsCard

/-- THE TIED CARD OF 'horologelaw02.FiguresTakes'. -/
def figuresTakesCard : Claim7 := { stood := { row := figuresTakesRow, standIns := [], harness := (true, "d51995f6216bc8112884fbc7e854108c1b141fd2e0edb83befa349f808b502a3"), looks := true }, kinds := [], alts := [], laidByText := true, laidKinds := [.data, .data, .data], laidTests := true, laidLooks := .later }
def FiguresTakesCardSaid : Prop := Claim7.holds Tryd.pinned (.plain (OpenSpec.ofChange figuresTakesSpec)) figuresTakesCard

/-- THE TIED CARD OF 'horologelaw02.FiguresSigned'. -/
def figuresSignedCard : Claim7 := { stood := { row := figuresSignedRow, standIns := [], harness := (true, "d51995f6216bc8112884fbc7e854108c1b141fd2e0edb83befa349f808b502a3"), looks := true }, kinds := [], alts := [], laidByText := true, laidKinds := [.data, .data, .data], laidTests := true, laidLooks := .later }
def FiguresSignedCardSaid : Prop := Claim7.holds Tryd.pinned (.plain (OpenSpec.ofChange figuresSignedSpec)) figuresSignedCard

/-- THE TIED CARD OF 'horologelaw02.FiguresFractions'. -/
def figuresFractionsCard : Claim7 := { stood := { row := figuresFractionsRow, standIns := [], harness := (true, "d51995f6216bc8112884fbc7e854108c1b141fd2e0edb83befa349f808b502a3"), looks := true }, kinds := [], alts := [], laidByText := true, laidKinds := [.data, .data, .data, .data, .pinned], laidTests := true, laidLooks := .later }
def FiguresFractionsCardSaid : Prop := Claim7.holds Tryd.pinned (.plain (OpenSpec.ofChange figuresFractionsSpec)) figuresFractionsCard

/-- THE TIED CARD OF 'horologelaw02.FiguresBack'. -/
def figuresBackCard : Claim7 := { stood := { row := figuresBackRow, standIns := [], harness := (true, "d51995f6216bc8112884fbc7e854108c1b141fd2e0edb83befa349f808b502a3"), looks := true }, kinds := [], alts := [], laidByText := true, laidKinds := [.data, .data, .data, .data, .pinned], laidTests := true, laidLooks := .later }
def FiguresBackCardSaid : Prop := Claim7.holds Tryd.pinned (.plain (OpenSpec.ofChange figuresBackSpec)) figuresBackCard

/-- THE SECOND FORM's CARD OF 'horologelaw02.FiguresPuts'. -/
def figuresPutsUptoCard : Claim7 := { stood := { row := figuresPutsUptoRow, standIns := [], harness := (true, "d51995f6216bc8112884fbc7e854108c1b141fd2e0edb83befa349f808b502a3"), looks := true }, kinds := [], alts := [], laidByText := true, laidKinds := [.data, .data, .data], laidTests := true, laidLooks := .later }
def FiguresPutsUptoCardSaid : Prop := Claim7.holds Tryd.pinned (.plain (OpenSpec.upto figuresPutsSpec)) figuresPutsUptoCard

/-- THE SECOND FORM's CARD OF 'horologelaw02.FiguresTakes'. -/
def figuresTakesUptoCard : Claim7 := { stood := { row := figuresTakesUptoRow, standIns := [], harness := (true, "d51995f6216bc8112884fbc7e854108c1b141fd2e0edb83befa349f808b502a3"), looks := true }, kinds := [], alts := [], laidByText := true, laidKinds := [.data, .data, .data], laidTests := true, laidLooks := .later }
def FiguresTakesUptoCardSaid : Prop := Claim7.holds Tryd.pinned (.plain (OpenSpec.upto figuresTakesSpec)) figuresTakesUptoCard

/-- THE SECOND FORM's CARD OF 'horologelaw02.FiguresSigned'. -/
def figuresSignedUptoCard : Claim7 := { stood := { row := figuresSignedUptoRow, standIns := [], harness := (true, "d51995f6216bc8112884fbc7e854108c1b141fd2e0edb83befa349f808b502a3"), looks := true }, kinds := [], alts := [], laidByText := true, laidKinds := [.data, .data, .data], laidTests := true, laidLooks := .later }
def FiguresSignedUptoCardSaid : Prop := Claim7.holds Tryd.pinned (.plain (OpenSpec.upto figuresSignedSpec)) figuresSignedUptoCard

/-- THE SECOND FORM's CARD OF 'horologelaw02.FiguresFractions'. -/
def figuresFractionsUptoCard : Claim7 := { stood := { row := figuresFractionsUptoRow, standIns := [], harness := (true, "d51995f6216bc8112884fbc7e854108c1b141fd2e0edb83befa349f808b502a3"), looks := true }, kinds := [], alts := [], laidByText := true, laidKinds := [.data, .data, .data, .data, .pinned], laidTests := true, laidLooks := .later }
def FiguresFractionsUptoCardSaid : Prop := Claim7.holds Tryd.pinned (.plain (OpenSpec.upto figuresFractionsSpec)) figuresFractionsUptoCard

/-- THE SECOND FORM's CARD OF 'horologelaw02.FiguresBack'. -/
def figuresBackUptoCard : Claim7 := { stood := { row := figuresBackUptoRow, standIns := [], harness := (true, "d51995f6216bc8112884fbc7e854108c1b141fd2e0edb83befa349f808b502a3"), looks := true }, kinds := [], alts := [], laidByText := true, laidKinds := [.data, .data, .data, .data, .pinned], laidTests := true, laidLooks := .later }
def FiguresBackUptoCardSaid : Prop := Claim7.holds Tryd.pinned (.plain (OpenSpec.upto figuresBackSpec)) figuresBackUptoCard
end Rows
end Go.Proofs.YthlampneheoedaaDoor
