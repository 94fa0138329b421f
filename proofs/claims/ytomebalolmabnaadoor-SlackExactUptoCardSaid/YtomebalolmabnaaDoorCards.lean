/-
  DERIVED. GIVEN WITH THE SEED: THE CARDS: each row of YtomebalolmabnaaDoorRows.lean that lists a variable, with what it lists TIED to the program's text (the seventh form; the later family's looks); each row that meets fmt, with fmt's text TOLD by the authors' own Lean function (tested against real Go, not proved from fmt's source: count such statements apart). THE CARD IS WHAT COUNTS. Prove the row's statement (the work); the ties are given (YtomebalolmabnaaDoorTie.lean); close each card by the builder's one call (the guide's Derived/Test/ToyasCard.lean, 'card_holds'). Laid BY PROGRAM, IN A SANDBOX (cutbox-door.mjs). By AI agents, Wed Nov 11 2026. No macro, syntax, notation, axiom, sorry.
-/
import Derived.Test.YtomebalolmabnaaDoorRows
import GoSem.ClaimSeven
namespace Go.Proofs.YtomebalolmabnaaDoor
namespace Rows

/-- THE TIED CARD OF 'lorrylaw19.SlackExact'. -/
def slackExactCard : Claim7 := { stood := { row := slackExactRow, standIns := [], harness := (true, "3c003088619a935d8bd2e3ce2d96d59ba56c627c029731a073e6cbdcaeafddec"), looks := false }, kinds := [], alts := [], laidByText := true, laidKinds := [.data, .data, .data], laidTests := true, laidLooks := .later }
def SlackExactCardSaid : Prop := Claim7.holds Tryd.pinned (.plain (OpenSpec.ofChange slackExactSpec)) slackExactCard

/-- THE TIED CARD OF 'lorrylaw19.SlackKeeps'. -/
def slackKeepsCard : Claim7 := { stood := { row := slackKeepsRow, standIns := [], harness := (true, "3c003088619a935d8bd2e3ce2d96d59ba56c627c029731a073e6cbdcaeafddec"), looks := false }, kinds := [], alts := [], laidByText := true, laidKinds := [.data, .data, .data], laidTests := true, laidLooks := .later }
def SlackKeepsCardSaid : Prop := Claim7.holds Tryd.pinned (.plain (OpenSpec.ofChange slackKeepsSpec)) slackKeepsCard

/-- THE TIED CARD OF 'lorrylaw18.DriveBest'. -/
def driveBestCard : Claim7 := { stood := { row := driveBestRow, standIns := [], harness := (true, "3c003088619a935d8bd2e3ce2d96d59ba56c627c029731a073e6cbdcaeafddec"), looks := false }, kinds := [], alts := [], laidByText := true, laidKinds := [.data, .data, .data], laidTests := true, laidLooks := .later }
def DriveBestCardSaid : Prop := Claim7.holds Tryd.pinned (.plain (OpenSpec.ofChange driveBestSpec)) driveBestCard

/-- THE SECOND FORM's CARD OF 'lorrylaw19.SlackExact'. -/
def slackExactUptoCard : Claim7 := { stood := { row := slackExactUptoRow, standIns := [], harness := (true, "3c003088619a935d8bd2e3ce2d96d59ba56c627c029731a073e6cbdcaeafddec"), looks := false }, kinds := [], alts := [], laidByText := true, laidKinds := [.data, .data, .data], laidTests := true, laidLooks := .later }
def SlackExactUptoCardSaid : Prop := Claim7.holds Tryd.pinned (.plain (OpenSpec.upto slackExactSpec)) slackExactUptoCard

/-- THE SECOND FORM's CARD OF 'lorrylaw19.SlackKeeps'. -/
def slackKeepsUptoCard : Claim7 := { stood := { row := slackKeepsUptoRow, standIns := [], harness := (true, "3c003088619a935d8bd2e3ce2d96d59ba56c627c029731a073e6cbdcaeafddec"), looks := false }, kinds := [], alts := [], laidByText := true, laidKinds := [.data, .data, .data], laidTests := true, laidLooks := .later }
def SlackKeepsUptoCardSaid : Prop := Claim7.holds Tryd.pinned (.plain (OpenSpec.upto slackKeepsSpec)) slackKeepsUptoCard

/-- THE SECOND FORM's CARD OF 'lorrylaw18.DriveBest'. -/
def driveBestUptoCard : Claim7 := { stood := { row := driveBestUptoRow, standIns := [], harness := (true, "3c003088619a935d8bd2e3ce2d96d59ba56c627c029731a073e6cbdcaeafddec"), looks := false }, kinds := [], alts := [], laidByText := true, laidKinds := [.data, .data, .data], laidTests := true, laidLooks := .later }
def DriveBestUptoCardSaid : Prop := Claim7.holds Tryd.pinned (.plain (OpenSpec.upto driveBestSpec)) driveBestUptoCard
end Rows
end Go.Proofs.YtomebalolmabnaaDoor
