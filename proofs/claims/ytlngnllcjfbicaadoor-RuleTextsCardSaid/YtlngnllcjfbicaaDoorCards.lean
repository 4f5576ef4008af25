/-
  DERIVED. GIVEN WITH THE SEED: THE CARDS: each row of YtlngnllcjfbicaaDoorRows.lean that lists a variable, with what it lists TIED to the program's text (the seventh form; the later family's looks); each row that meets fmt, with fmt's text TOLD by the authors' own Lean function (tested against real Go, not proved from fmt's source: count such statements apart). THE CARD IS WHAT COUNTS. Prove the row's statement (the work); the ties are given (YtlngnllcjfbicaaDoorTie.lean); close each card by the builder's one call (the guide's Derived/Test/ToyasCard.lean, 'card_holds'). Laid BY PROGRAM, IN A SANDBOX (cutbox-door.mjs). By AI agents, Wed Nov 11 2026. No macro, syntax, notation, axiom, sorry.
-/
import Derived.Test.YtlngnllcjfbicaaDoorRows
import GoSem.ClaimSeven
namespace Go.Proofs.YtlngnllcjfbicaaDoor
namespace Rows

/-- THE TIED CARD OF 'horologelaw16.RuleDays'. -/
def ruleDaysCard : Claim7 := { stood := { row := ruleDaysRow, standIns := [], harness := (true, "d1fd985fc5a007d364a99dd507220704daa09678f62a4671113c13aa01bb56fa"), looks := true }, kinds := [], alts := [], laidByText := true, laidKinds := [.data], laidTests := true, laidLooks := .later }
def RuleDaysCardSaid : Prop := Claim7.holds Tryd.pinned (.plain (OpenSpec.ofChange ruleDaysSpec)) ruleDaysCard

/-- THE TIED CARD OF 'horologelaw16.RuleTexts'. -/
def ruleTextsCard : Claim7 := { stood := { row := ruleTextsRow, standIns := [], harness := (true, "d1fd985fc5a007d364a99dd507220704daa09678f62a4671113c13aa01bb56fa"), looks := true }, kinds := [], alts := [], laidByText := true, laidKinds := [.data, .data, .data, .data], laidTests := true, laidLooks := .later }
def RuleTextsCardSaid : Prop := Claim7.holds Tryd.pinned (.plain (OpenSpec.ofChange ruleTextsSpec)) ruleTextsCard

/-- THE TIED CARD OF 'horologelaw16.RuleClocks'. -/
def ruleClocksCard : Claim7 := { stood := { row := ruleClocksRow, standIns := [], harness := (true, "d1fd985fc5a007d364a99dd507220704daa09678f62a4671113c13aa01bb56fa"), looks := true }, kinds := [], alts := [], laidByText := true, laidKinds := [.data, .data, .data, .data], laidTests := true, laidLooks := .later }
def RuleClocksCardSaid : Prop := Claim7.holds Tryd.pinned (.plain (OpenSpec.ofChange ruleClocksSpec)) ruleClocksCard

/-- THE TIED CARD OF 'horologelaw16.RuleBack'. -/
def ruleBackCard : Claim7 := { stood := { row := ruleBackRow, standIns := [], harness := (true, "d1fd985fc5a007d364a99dd507220704daa09678f62a4671113c13aa01bb56fa"), looks := true }, kinds := [], alts := [], laidByText := true, laidKinds := [.data, .data, .data, .data], laidTests := true, laidLooks := .later }
def RuleBackCardSaid : Prop := Claim7.holds Tryd.pinned (.plain (OpenSpec.ofChange ruleBackSpec)) ruleBackCard

/-- THE TIED CARD OF 'horologelaw16.RuleWeeks'. -/
def ruleWeeksCard : Claim7 := { stood := { row := ruleWeeksRow, standIns := [], harness := (true, "d1fd985fc5a007d364a99dd507220704daa09678f62a4671113c13aa01bb56fa"), looks := true }, kinds := [], alts := [], laidByText := true, laidKinds := [.data], laidTests := true, laidLooks := .later }
def RuleWeeksCardSaid : Prop := Claim7.holds Tryd.pinned (.plain (OpenSpec.ofChange ruleWeeksSpec)) ruleWeeksCard

/-- THE SECOND FORM's CARD OF 'horologelaw16.RuleDays'. -/
def ruleDaysUptoCard : Claim7 := { stood := { row := ruleDaysUptoRow, standIns := [], harness := (true, "d1fd985fc5a007d364a99dd507220704daa09678f62a4671113c13aa01bb56fa"), looks := true }, kinds := [], alts := [], laidByText := true, laidKinds := [.data], laidTests := true, laidLooks := .later }
def RuleDaysUptoCardSaid : Prop := Claim7.holds Tryd.pinned (.plain (OpenSpec.upto ruleDaysSpec)) ruleDaysUptoCard

/-- THE SECOND FORM's CARD OF 'horologelaw16.RuleTexts'. -/
def ruleTextsUptoCard : Claim7 := { stood := { row := ruleTextsUptoRow, standIns := [], harness := (true, "d1fd985fc5a007d364a99dd507220704daa09678f62a4671113c13aa01bb56fa"), looks := true }, kinds := [], alts := [], laidByText := true, laidKinds := [.data, .data, .data, .data], laidTests := true, laidLooks := .later }
def RuleTextsUptoCardSaid : Prop := Claim7.holds Tryd.pinned (.plain (OpenSpec.upto ruleTextsSpec)) ruleTextsUptoCard

/-- THE SECOND FORM's CARD OF 'horologelaw16.RuleClocks'. -/
def ruleClocksUptoCard : Claim7 := { stood := { row := ruleClocksUptoRow, standIns := [], harness := (true, "d1fd985fc5a007d364a99dd507220704daa09678f62a4671113c13aa01bb56fa"), looks := true }, kinds := [], alts := [], laidByText := true, laidKinds := [.data, .data, .data, .data], laidTests := true, laidLooks := .later }
def RuleClocksUptoCardSaid : Prop := Claim7.holds Tryd.pinned (.plain (OpenSpec.upto ruleClocksSpec)) ruleClocksUptoCard

/-- THE SECOND FORM's CARD OF 'horologelaw16.RuleBack'. -/
def ruleBackUptoCard : Claim7 := { stood := { row := ruleBackUptoRow, standIns := [], harness := (true, "d1fd985fc5a007d364a99dd507220704daa09678f62a4671113c13aa01bb56fa"), looks := true }, kinds := [], alts := [], laidByText := true, laidKinds := [.data, .data, .data, .data], laidTests := true, laidLooks := .later }
def RuleBackUptoCardSaid : Prop := Claim7.holds Tryd.pinned (.plain (OpenSpec.upto ruleBackSpec)) ruleBackUptoCard

/-- THE SECOND FORM's CARD OF 'horologelaw16.RuleWeeks'. -/
def ruleWeeksUptoCard : Claim7 := { stood := { row := ruleWeeksUptoRow, standIns := [], harness := (true, "d1fd985fc5a007d364a99dd507220704daa09678f62a4671113c13aa01bb56fa"), looks := true }, kinds := [], alts := [], laidByText := true, laidKinds := [.data], laidTests := true, laidLooks := .later }
def RuleWeeksUptoCardSaid : Prop := Claim7.holds Tryd.pinned (.plain (OpenSpec.upto ruleWeeksSpec)) ruleWeeksUptoCard
end Rows
end Go.Proofs.YtlngnllcjfbicaaDoor
