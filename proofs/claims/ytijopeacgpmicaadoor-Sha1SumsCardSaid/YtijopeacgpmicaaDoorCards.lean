/-
  DERIVED. GIVEN WITH THE SEED: THE CARDS: each row of YtijopeacgpmicaaDoorRows.lean that lists a variable, with what it lists TIED to the program's text (the seventh form; the later family's looks); each row that meets fmt, with fmt's text TOLD by the authors' own Lean function (tested against real Go, not proved from fmt's source: count such statements apart). THE CARD IS WHAT COUNTS. Prove the row's statement (the work); the ties are given (YtijopeacgpmicaaDoorTie.lean); close each card by the builder's one call (the guide's Derived/Test/ToyasCard.lean, 'card_holds'). Laid BY PROGRAM, IN A SANDBOX (cutbox-door.mjs). By AI agents, Wed Nov 11 2026. No macro, syntax, notation, axiom, sorry.
-/
import Derived.Test.YtijopeacgpmicaaDoorRows
import GoSem.ClaimSeven
namespace Go.Proofs.YtijopeacgpmicaaDoor
namespace Rows

/-- THE TIED CARD OF 'horologelaw09.Sha1Sums'. -/
def sha1SumsCard : Claim7 := { stood := { row := sha1SumsRow, standIns := [], harness := (true, "0d855342127764242dfb826e150fa1c896b4a3ad6c81cf427329be43c9ad971a"), looks := false }, kinds := [], alts := [], laidByText := true, laidKinds := [.data], laidTests := true, laidLooks := .later }
def Sha1SumsCardSaid : Prop := Claim7.holds Tryd.pinned (.plain (OpenSpec.ofChange sha1SumsSpec)) sha1SumsCard

/-- THE TIED CARD OF 'horologelaw09.Sha1Steps'. -/
def sha1StepsCard : Claim7 := { stood := { row := sha1StepsRow, standIns := [], harness := (true, "0d855342127764242dfb826e150fa1c896b4a3ad6c81cf427329be43c9ad971a"), looks := false }, kinds := [], alts := [], laidByText := true, laidKinds := [.data], laidTests := true, laidLooks := .later }
def Sha1StepsCardSaid : Prop := Claim7.holds Tryd.pinned (.plain (OpenSpec.ofChange sha1StepsSpec)) sha1StepsCard

/-- THE TIED CARD OF 'horologelaw09.Sha1Parts'. -/
def sha1PartsCard : Claim7 := { stood := { row := sha1PartsRow, standIns := [], harness := (true, "0d855342127764242dfb826e150fa1c896b4a3ad6c81cf427329be43c9ad971a"), looks := false }, kinds := [], alts := [], laidByText := true, laidKinds := [.data], laidTests := true, laidLooks := .later }
def Sha1PartsCardSaid : Prop := Claim7.holds Tryd.pinned (.plain (OpenSpec.ofChange sha1PartsSpec)) sha1PartsCard

/-- THE SECOND FORM's CARD OF 'horologelaw09.Sha1Sums'. -/
def sha1SumsUptoCard : Claim7 := { stood := { row := sha1SumsUptoRow, standIns := [], harness := (true, "0d855342127764242dfb826e150fa1c896b4a3ad6c81cf427329be43c9ad971a"), looks := false }, kinds := [], alts := [], laidByText := true, laidKinds := [.data], laidTests := true, laidLooks := .later }
def Sha1SumsUptoCardSaid : Prop := Claim7.holds Tryd.pinned (.plain (OpenSpec.upto sha1SumsSpec)) sha1SumsUptoCard

/-- THE SECOND FORM's CARD OF 'horologelaw09.Sha1Steps'. -/
def sha1StepsUptoCard : Claim7 := { stood := { row := sha1StepsUptoRow, standIns := [], harness := (true, "0d855342127764242dfb826e150fa1c896b4a3ad6c81cf427329be43c9ad971a"), looks := false }, kinds := [], alts := [], laidByText := true, laidKinds := [.data], laidTests := true, laidLooks := .later }
def Sha1StepsUptoCardSaid : Prop := Claim7.holds Tryd.pinned (.plain (OpenSpec.upto sha1StepsSpec)) sha1StepsUptoCard

/-- THE SECOND FORM's CARD OF 'horologelaw09.Sha1Parts'. -/
def sha1PartsUptoCard : Claim7 := { stood := { row := sha1PartsUptoRow, standIns := [], harness := (true, "0d855342127764242dfb826e150fa1c896b4a3ad6c81cf427329be43c9ad971a"), looks := false }, kinds := [], alts := [], laidByText := true, laidKinds := [.data], laidTests := true, laidLooks := .later }
def Sha1PartsUptoCardSaid : Prop := Claim7.holds Tryd.pinned (.plain (OpenSpec.upto sha1PartsSpec)) sha1PartsUptoCard
end Rows
end Go.Proofs.YtijopeacgpmicaaDoor
