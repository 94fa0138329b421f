/-
  DERIVED. GIVEN WITH THE SEED: THE CARDS: each row of YtmoilpkgoabopaaDoorRows.lean that lists a variable, with what it lists TIED to the program's text (the seventh form; the later family's looks); each row that meets fmt, with fmt's text TOLD by the authors' own Lean function (tested against real Go, not proved from fmt's source: count such statements apart). THE CARD IS WHAT COUNTS. Prove the row's statement (the work); the ties are given (YtmoilpkgoabopaaDoorTie.lean); close each card by the builder's one call (the guide's Derived/Test/ToyasCard.lean, 'card_holds'). Laid BY PROGRAM, IN A SANDBOX (cutbox-door.mjs). By AI agents, Wed Nov 11 2026. No macro, syntax, notation, axiom, sorry.
-/
import Derived.Test.YtmoilpkgoabopaaDoorRows
import GoSem.ClaimSeven
namespace Go.Proofs.YtmoilpkgoabopaaDoor
namespace Rows

/-- THE TIED CARD OF 'lorrylaw12.RulesChecks'. -/
def rulesChecksCard : Claim7 := { stood := { row := rulesChecksRow, standIns := [], harness := (true, "b43b0cb113899624ae2e84322c50f947ad2caa846a82b1da710ef25bcee1a441"), looks := false }, kinds := [], alts := [], laidByText := true, laidKinds := [.data, .data, .data], laidTests := true, laidLooks := .later }
def RulesChecksCardSaid : Prop := Claim7.holds Tryd.pinned (.plain (OpenSpec.ofChange rulesChecksSpec)) rulesChecksCard

/-- THE TIED CARD OF 'lorrylaw12.RulesChains'. -/
def rulesChainsCard : Claim7 := { stood := { row := rulesChainsRow, standIns := [], harness := (true, "b43b0cb113899624ae2e84322c50f947ad2caa846a82b1da710ef25bcee1a441"), looks := false }, kinds := [], alts := [], laidByText := true, laidKinds := [.data, .data, .data], laidTests := true, laidLooks := .later }
def RulesChainsCardSaid : Prop := Claim7.holds Tryd.pinned (.plain (OpenSpec.ofChange rulesChainsSpec)) rulesChainsCard

/-- THE TIED CARD OF 'lorrylaw12.RulesAllow'. -/
def rulesAllowCard : Claim7 := { stood := { row := rulesAllowRow, standIns := [], harness := (true, "b43b0cb113899624ae2e84322c50f947ad2caa846a82b1da710ef25bcee1a441"), looks := false }, kinds := [], alts := [], laidByText := true, laidKinds := [.data, .data, .data], laidTests := true, laidLooks := .later }
def RulesAllowCardSaid : Prop := Claim7.holds Tryd.pinned (.plain (OpenSpec.ofChange rulesAllowSpec)) rulesAllowCard

/-- THE TIED CARD OF 'lorrylaw12.RulesTransitive'. -/
def rulesTransitiveCard : Claim7 := { stood := { row := rulesTransitiveRow, standIns := [], harness := (true, "b43b0cb113899624ae2e84322c50f947ad2caa846a82b1da710ef25bcee1a441"), looks := false }, kinds := [], alts := [], laidByText := true, laidKinds := [.data, .data, .data], laidTests := true, laidLooks := .later }
def RulesTransitiveCardSaid : Prop := Claim7.holds Tryd.pinned (.plain (OpenSpec.ofChange rulesTransitiveSpec)) rulesTransitiveCard

/-- THE TIED CARD OF 'lorrylaw12.RulesComplete'. -/
def rulesCompleteCard : Claim7 := { stood := { row := rulesCompleteRow, standIns := [], harness := (true, "b43b0cb113899624ae2e84322c50f947ad2caa846a82b1da710ef25bcee1a441"), looks := false }, kinds := [], alts := [], laidByText := true, laidKinds := [.data, .data, .data], laidTests := true, laidLooks := .later }
def RulesCompleteCardSaid : Prop := Claim7.holds Tryd.pinned (.plain (OpenSpec.ofChange rulesCompleteSpec)) rulesCompleteCard

/-- THE TIED CARD OF 'lorrylaw12.RulesParts'. -/
def rulesPartsCard : Claim7 := { stood := { row := rulesPartsRow, standIns := [], harness := (true, "b43b0cb113899624ae2e84322c50f947ad2caa846a82b1da710ef25bcee1a441"), looks := false }, kinds := [], alts := [], laidByText := true, laidKinds := [.data, .data, .data], laidTests := true, laidLooks := .later }
def RulesPartsCardSaid : Prop := Claim7.holds Tryd.pinned (.plain (OpenSpec.ofChange rulesPartsSpec)) rulesPartsCard

/-- THE SECOND FORM's CARD OF 'lorrylaw12.RulesChecks'. -/
def rulesChecksUptoCard : Claim7 := { stood := { row := rulesChecksUptoRow, standIns := [], harness := (true, "b43b0cb113899624ae2e84322c50f947ad2caa846a82b1da710ef25bcee1a441"), looks := false }, kinds := [], alts := [], laidByText := true, laidKinds := [.data, .data, .data], laidTests := true, laidLooks := .later }
def RulesChecksUptoCardSaid : Prop := Claim7.holds Tryd.pinned (.plain (OpenSpec.upto rulesChecksSpec)) rulesChecksUptoCard

/-- THE SECOND FORM's CARD OF 'lorrylaw12.RulesChains'. -/
def rulesChainsUptoCard : Claim7 := { stood := { row := rulesChainsUptoRow, standIns := [], harness := (true, "b43b0cb113899624ae2e84322c50f947ad2caa846a82b1da710ef25bcee1a441"), looks := false }, kinds := [], alts := [], laidByText := true, laidKinds := [.data, .data, .data], laidTests := true, laidLooks := .later }
def RulesChainsUptoCardSaid : Prop := Claim7.holds Tryd.pinned (.plain (OpenSpec.upto rulesChainsSpec)) rulesChainsUptoCard

/-- THE SECOND FORM's CARD OF 'lorrylaw12.RulesAllow'. -/
def rulesAllowUptoCard : Claim7 := { stood := { row := rulesAllowUptoRow, standIns := [], harness := (true, "b43b0cb113899624ae2e84322c50f947ad2caa846a82b1da710ef25bcee1a441"), looks := false }, kinds := [], alts := [], laidByText := true, laidKinds := [.data, .data, .data], laidTests := true, laidLooks := .later }
def RulesAllowUptoCardSaid : Prop := Claim7.holds Tryd.pinned (.plain (OpenSpec.upto rulesAllowSpec)) rulesAllowUptoCard

/-- THE SECOND FORM's CARD OF 'lorrylaw12.RulesTransitive'. -/
def rulesTransitiveUptoCard : Claim7 := { stood := { row := rulesTransitiveUptoRow, standIns := [], harness := (true, "b43b0cb113899624ae2e84322c50f947ad2caa846a82b1da710ef25bcee1a441"), looks := false }, kinds := [], alts := [], laidByText := true, laidKinds := [.data, .data, .data], laidTests := true, laidLooks := .later }
def RulesTransitiveUptoCardSaid : Prop := Claim7.holds Tryd.pinned (.plain (OpenSpec.upto rulesTransitiveSpec)) rulesTransitiveUptoCard

/-- THE SECOND FORM's CARD OF 'lorrylaw12.RulesComplete'. -/
def rulesCompleteUptoCard : Claim7 := { stood := { row := rulesCompleteUptoRow, standIns := [], harness := (true, "b43b0cb113899624ae2e84322c50f947ad2caa846a82b1da710ef25bcee1a441"), looks := false }, kinds := [], alts := [], laidByText := true, laidKinds := [.data, .data, .data], laidTests := true, laidLooks := .later }
def RulesCompleteUptoCardSaid : Prop := Claim7.holds Tryd.pinned (.plain (OpenSpec.upto rulesCompleteSpec)) rulesCompleteUptoCard

/-- THE SECOND FORM's CARD OF 'lorrylaw12.RulesParts'. -/
def rulesPartsUptoCard : Claim7 := { stood := { row := rulesPartsUptoRow, standIns := [], harness := (true, "b43b0cb113899624ae2e84322c50f947ad2caa846a82b1da710ef25bcee1a441"), looks := false }, kinds := [], alts := [], laidByText := true, laidKinds := [.data, .data, .data], laidTests := true, laidLooks := .later }
def RulesPartsUptoCardSaid : Prop := Claim7.holds Tryd.pinned (.plain (OpenSpec.upto rulesPartsSpec)) rulesPartsUptoCard
end Rows
end Go.Proofs.YtmoilpkgoabopaaDoor
