/-
  DERIVED. GIVEN WITH THE SEED: THE CARDS: each row of YtaahfkkcjfpieaaDoorRows.lean that lists a variable, with what it lists TIED to the program's text (the seventh form; the later family's looks); each row that meets fmt, with fmt's text TOLD by the authors' own Lean function (tested against real Go, not proved from fmt's source: count such statements apart). THE CARD IS WHAT COUNTS. Prove the row's statement (the work); the ties are given (YtaahfkkcjfpieaaDoorTie.lean); close each card by the builder's one call (the guide's Derived/Test/ToyasCard.lean, 'card_holds'). Laid BY PROGRAM, IN A SANDBOX (cutbox-door.mjs). By AI agents, Wed Nov 11 2026. No macro, syntax, notation, axiom, sorry.
-/
import Derived.Test.YtaahfkkcjfpieaaDoorRows
import GoSem.ClaimSeven
namespace Go.Proofs.YtaahfkkcjfpieaaDoor
namespace Rows

/-- THE TIED CARD OF 'horologelaw10.LeapTables'. -/
def leapTablesCard : Claim7 := { stood := { row := leapTablesRow, standIns := [], harness := (true, "9abc57e41fae3fa07e631f3dfd471d4d5a4e2bf0a4999d4e4fedb4cc3e92f26d"), looks := true }, kinds := [], alts := [], laidByText := true, laidKinds := [.data], laidTests := true, laidLooks := .later }
def LeapTablesCardSaid : Prop := Claim7.holds Tryd.pinned (.plain (OpenSpec.ofChange leapTablesSpec)) leapTablesCard

/-- THE TIED CARD OF 'horologelaw10.LeapDays'. -/
def leapDaysCard : Claim7 := { stood := { row := leapDaysRow, standIns := [], harness := (true, "9abc57e41fae3fa07e631f3dfd471d4d5a4e2bf0a4999d4e4fedb4cc3e92f26d"), looks := true }, kinds := [], alts := [], laidByText := true, laidKinds := [.data], laidTests := true, laidLooks := .later }
def LeapDaysCardSaid : Prop := Claim7.holds Tryd.pinned (.plain (OpenSpec.ofChange leapDaysSpec)) leapDaysCard

/-- THE TIED CARD OF 'horologelaw10.LeapSteps'. -/
def leapStepsCard : Claim7 := { stood := { row := leapStepsRow, standIns := [], harness := (true, "9abc57e41fae3fa07e631f3dfd471d4d5a4e2bf0a4999d4e4fedb4cc3e92f26d"), looks := true }, kinds := [], alts := [], laidByText := true, laidKinds := [.data], laidTests := true, laidLooks := .later }
def LeapStepsCardSaid : Prop := Claim7.holds Tryd.pinned (.plain (OpenSpec.ofChange leapStepsSpec)) leapStepsCard

/-- THE TIED CARD OF 'horologelaw10.LeapSame'. -/
def leapSameCard : Claim7 := { stood := { row := leapSameRow, standIns := [], harness := (true, "9abc57e41fae3fa07e631f3dfd471d4d5a4e2bf0a4999d4e4fedb4cc3e92f26d"), looks := true }, kinds := [], alts := [], laidByText := true, laidKinds := [.data], laidTests := true, laidLooks := .later }
def LeapSameCardSaid : Prop := Claim7.holds Tryd.pinned (.plain (OpenSpec.ofChange leapSameSpec)) leapSameCard

/-- THE SECOND FORM's CARD OF 'horologelaw10.LeapTables'. -/
def leapTablesUptoCard : Claim7 := { stood := { row := leapTablesUptoRow, standIns := [], harness := (true, "9abc57e41fae3fa07e631f3dfd471d4d5a4e2bf0a4999d4e4fedb4cc3e92f26d"), looks := true }, kinds := [], alts := [], laidByText := true, laidKinds := [.data], laidTests := true, laidLooks := .later }
def LeapTablesUptoCardSaid : Prop := Claim7.holds Tryd.pinned (.plain (OpenSpec.upto leapTablesSpec)) leapTablesUptoCard

/-- THE SECOND FORM's CARD OF 'horologelaw10.LeapDays'. -/
def leapDaysUptoCard : Claim7 := { stood := { row := leapDaysUptoRow, standIns := [], harness := (true, "9abc57e41fae3fa07e631f3dfd471d4d5a4e2bf0a4999d4e4fedb4cc3e92f26d"), looks := true }, kinds := [], alts := [], laidByText := true, laidKinds := [.data], laidTests := true, laidLooks := .later }
def LeapDaysUptoCardSaid : Prop := Claim7.holds Tryd.pinned (.plain (OpenSpec.upto leapDaysSpec)) leapDaysUptoCard

/-- THE SECOND FORM's CARD OF 'horologelaw10.LeapSteps'. -/
def leapStepsUptoCard : Claim7 := { stood := { row := leapStepsUptoRow, standIns := [], harness := (true, "9abc57e41fae3fa07e631f3dfd471d4d5a4e2bf0a4999d4e4fedb4cc3e92f26d"), looks := true }, kinds := [], alts := [], laidByText := true, laidKinds := [.data], laidTests := true, laidLooks := .later }
def LeapStepsUptoCardSaid : Prop := Claim7.holds Tryd.pinned (.plain (OpenSpec.upto leapStepsSpec)) leapStepsUptoCard

/-- THE SECOND FORM's CARD OF 'horologelaw10.LeapSame'. -/
def leapSameUptoCard : Claim7 := { stood := { row := leapSameUptoRow, standIns := [], harness := (true, "9abc57e41fae3fa07e631f3dfd471d4d5a4e2bf0a4999d4e4fedb4cc3e92f26d"), looks := true }, kinds := [], alts := [], laidByText := true, laidKinds := [.data], laidTests := true, laidLooks := .later }
def LeapSameUptoCardSaid : Prop := Claim7.holds Tryd.pinned (.plain (OpenSpec.upto leapSameSpec)) leapSameUptoCard
end Rows
end Go.Proofs.YtaahfkkcjfpieaaDoor
