/-
  DERIVED. GIVEN WITH THE SEED: THE CARDS: each row of YtomebalolmabnaaGreatDoorRows.lean that lists a variable, with what it lists TIED to the program's text (the seventh form; the later family's looks); each row that meets fmt, with fmt's text TOLD by the authors' own Lean function (tested against real Go, not proved from fmt's source: count such statements apart). THE CARD IS WHAT COUNTS. Prove the row's statement (the work); the ties are given (YtomebalolmabnaaGreatDoorTie.lean); close each card by the builder's one call (the guide's Derived/Test/ToyasCard.lean, 'card_holds'). Laid BY PROGRAM, IN A SANDBOX (cutbox-door.mjs). By AI agents, Wed Nov 11 2026. No macro, syntax, notation, axiom, sorry.
-/
import Derived.Test.YtomebalolmabnaaGreatDoorRows
import GoSem.ClaimSeven
namespace Go.Proofs.YtomebalolmabnaaGreatDoor
namespace Rows

/-- THE TIED CARD OF 'lorrylaw19.SlackFinds'. -/
def slackFindsCard : Claim7 := { stood := { row := slackFindsRow, standIns := [], harness := (true, "c044c5ce476139e7a8df9a8148e83b6dbce847f9a6b3d098ab52e411b2c329e3"), looks := false }, kinds := [], alts := [], laidByText := true, laidKinds := [.data, .data, .data], laidTests := true, laidLooks := .later }
def SlackFindsCardSaid : Prop := Claim7.holds Tryz.pinned (.plain (OpenSpec.ofChange slackFindsSpec)) slackFindsCard

/-- THE TIED CARD OF 'lorrylaw19.SlackDelays'. -/
def slackDelaysCard : Claim7 := { stood := { row := slackDelaysRow, standIns := [], harness := (true, "c044c5ce476139e7a8df9a8148e83b6dbce847f9a6b3d098ab52e411b2c329e3"), looks := false }, kinds := [], alts := [], laidByText := true, laidKinds := [.data, .data, .data], laidTests := true, laidLooks := .later }
def SlackDelaysCardSaid : Prop := Claim7.holds Tryz.pinned (.plain (OpenSpec.ofChange slackDelaysSpec)) slackDelaysCard

/-- THE SECOND FORM's CARD OF 'lorrylaw19.SlackFinds'. -/
def slackFindsUptoCard : Claim7 := { stood := { row := slackFindsUptoRow, standIns := [], harness := (true, "c044c5ce476139e7a8df9a8148e83b6dbce847f9a6b3d098ab52e411b2c329e3"), looks := false }, kinds := [], alts := [], laidByText := true, laidKinds := [.data, .data, .data], laidTests := true, laidLooks := .later }
def SlackFindsUptoCardSaid : Prop := Claim7.holds Tryz.pinned (.plain (OpenSpec.upto slackFindsSpec)) slackFindsUptoCard

/-- THE SECOND FORM's CARD OF 'lorrylaw19.SlackDelays'. -/
def slackDelaysUptoCard : Claim7 := { stood := { row := slackDelaysUptoRow, standIns := [], harness := (true, "c044c5ce476139e7a8df9a8148e83b6dbce847f9a6b3d098ab52e411b2c329e3"), looks := false }, kinds := [], alts := [], laidByText := true, laidKinds := [.data, .data, .data], laidTests := true, laidLooks := .later }
def SlackDelaysUptoCardSaid : Prop := Claim7.holds Tryz.pinned (.plain (OpenSpec.upto slackDelaysSpec)) slackDelaysUptoCard
end Rows
end Go.Proofs.YtomebalolmabnaaGreatDoor
