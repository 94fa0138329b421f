/-
  DERIVED. GIVEN WITH THE SEED: THE CARDS: each row of YthihahehmnpenaaDoorRows.lean that lists a variable, with what it lists TIED to the program's text (the seventh form; the later family's looks); each row that meets fmt, with fmt's text TOLD by the authors' own Lean function (tested against real Go, not proved from fmt's source: count such statements apart). THE CARD IS WHAT COUNTS. Prove the row's statement (the work); the ties are given (YthihahehmnpenaaDoorTie.lean); close each card by the builder's one call (the guide's Derived/Test/ToyasCard.lean, 'card_holds'). Laid BY PROGRAM, IN A SANDBOX (cutbox-door.mjs). By AI agents, Wed Nov 11 2026. No macro, syntax, notation, axiom, sorry.
-/
import Derived.Test.YthihahehmnpenaaDoorRows
import GoSem.ClaimSeven
namespace Go.Proofs.YthihahehmnpenaaDoor
namespace Rows

/-- THE TIED CARD OF 'lorrylaw10.FleetChecks'. -/
def fleetChecksCard : Claim7 := { stood := { row := fleetChecksRow, standIns := [], harness := (true, "65811781827d04c5bf56c18f0cec028255e5d3dcd05cd6daccd532440f7c5c7f"), looks := false }, kinds := [], alts := [], laidByText := true, laidKinds := [.data, .data, .data], laidTests := true, laidLooks := .later }
def FleetChecksCardSaid : Prop := Claim7.holds Tryd.pinned (.plain (OpenSpec.ofChange fleetChecksSpec)) fleetChecksCard

/-- THE TIED CARD OF 'lorrylaw10.FleetCounts'. -/
def fleetCountsCard : Claim7 := { stood := { row := fleetCountsRow, standIns := [], harness := (true, "65811781827d04c5bf56c18f0cec028255e5d3dcd05cd6daccd532440f7c5c7f"), looks := false }, kinds := [], alts := [], laidByText := true, laidKinds := [.data, .data, .data], laidTests := true, laidLooks := .later }
def FleetCountsCardSaid : Prop := Claim7.holds Tryd.pinned (.plain (OpenSpec.ofChange fleetCountsSpec)) fleetCountsCard

/-- THE TIED CARD OF 'lorrylaw10.FleetAble'. -/
def fleetAbleCard : Claim7 := { stood := { row := fleetAbleRow, standIns := [], harness := (true, "65811781827d04c5bf56c18f0cec028255e5d3dcd05cd6daccd532440f7c5c7f"), looks := false }, kinds := [], alts := [], laidByText := true, laidKinds := [.data, .data, .data], laidTests := true, laidLooks := .later }
def FleetAbleCardSaid : Prop := Claim7.holds Tryd.pinned (.plain (OpenSpec.ofChange fleetAbleSpec)) fleetAbleCard

/-- THE TIED CARD OF 'lorrylaw10.FleetSame'. -/
def fleetSameCard : Claim7 := { stood := { row := fleetSameRow, standIns := [], harness := (true, "65811781827d04c5bf56c18f0cec028255e5d3dcd05cd6daccd532440f7c5c7f"), looks := false }, kinds := [], alts := [], laidByText := true, laidKinds := [.data, .data, .data], laidTests := true, laidLooks := .later }
def FleetSameCardSaid : Prop := Claim7.holds Tryd.pinned (.plain (OpenSpec.ofChange fleetSameSpec)) fleetSameCard

/-- THE TIED CARD OF 'lorrylaw10.FleetParts'. -/
def fleetPartsCard : Claim7 := { stood := { row := fleetPartsRow, standIns := [], harness := (true, "65811781827d04c5bf56c18f0cec028255e5d3dcd05cd6daccd532440f7c5c7f"), looks := false }, kinds := [], alts := [], laidByText := true, laidKinds := [.data, .data, .data], laidTests := true, laidLooks := .later }
def FleetPartsCardSaid : Prop := Claim7.holds Tryd.pinned (.plain (OpenSpec.ofChange fleetPartsSpec)) fleetPartsCard

/-- THE SECOND FORM's CARD OF 'lorrylaw10.FleetChecks'. -/
def fleetChecksUptoCard : Claim7 := { stood := { row := fleetChecksUptoRow, standIns := [], harness := (true, "65811781827d04c5bf56c18f0cec028255e5d3dcd05cd6daccd532440f7c5c7f"), looks := false }, kinds := [], alts := [], laidByText := true, laidKinds := [.data, .data, .data], laidTests := true, laidLooks := .later }
def FleetChecksUptoCardSaid : Prop := Claim7.holds Tryd.pinned (.plain (OpenSpec.upto fleetChecksSpec)) fleetChecksUptoCard

/-- THE SECOND FORM's CARD OF 'lorrylaw10.FleetCounts'. -/
def fleetCountsUptoCard : Claim7 := { stood := { row := fleetCountsUptoRow, standIns := [], harness := (true, "65811781827d04c5bf56c18f0cec028255e5d3dcd05cd6daccd532440f7c5c7f"), looks := false }, kinds := [], alts := [], laidByText := true, laidKinds := [.data, .data, .data], laidTests := true, laidLooks := .later }
def FleetCountsUptoCardSaid : Prop := Claim7.holds Tryd.pinned (.plain (OpenSpec.upto fleetCountsSpec)) fleetCountsUptoCard

/-- THE SECOND FORM's CARD OF 'lorrylaw10.FleetAble'. -/
def fleetAbleUptoCard : Claim7 := { stood := { row := fleetAbleUptoRow, standIns := [], harness := (true, "65811781827d04c5bf56c18f0cec028255e5d3dcd05cd6daccd532440f7c5c7f"), looks := false }, kinds := [], alts := [], laidByText := true, laidKinds := [.data, .data, .data], laidTests := true, laidLooks := .later }
def FleetAbleUptoCardSaid : Prop := Claim7.holds Tryd.pinned (.plain (OpenSpec.upto fleetAbleSpec)) fleetAbleUptoCard

/-- THE SECOND FORM's CARD OF 'lorrylaw10.FleetSame'. -/
def fleetSameUptoCard : Claim7 := { stood := { row := fleetSameUptoRow, standIns := [], harness := (true, "65811781827d04c5bf56c18f0cec028255e5d3dcd05cd6daccd532440f7c5c7f"), looks := false }, kinds := [], alts := [], laidByText := true, laidKinds := [.data, .data, .data], laidTests := true, laidLooks := .later }
def FleetSameUptoCardSaid : Prop := Claim7.holds Tryd.pinned (.plain (OpenSpec.upto fleetSameSpec)) fleetSameUptoCard

/-- THE SECOND FORM's CARD OF 'lorrylaw10.FleetParts'. -/
def fleetPartsUptoCard : Claim7 := { stood := { row := fleetPartsUptoRow, standIns := [], harness := (true, "65811781827d04c5bf56c18f0cec028255e5d3dcd05cd6daccd532440f7c5c7f"), looks := false }, kinds := [], alts := [], laidByText := true, laidKinds := [.data, .data, .data], laidTests := true, laidLooks := .later }
def FleetPartsUptoCardSaid : Prop := Claim7.holds Tryd.pinned (.plain (OpenSpec.upto fleetPartsSpec)) fleetPartsUptoCard
end Rows
end Go.Proofs.YthihahehmnpenaaDoor
