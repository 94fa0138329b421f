/-
  DERIVED. GIVEN WITH THE SEED: THE CARDS: each row of YtecegfjllncfmaaDoorRows.lean that lists a variable, with what it lists TIED to the program's text (the seventh form; the later family's looks); each row that meets fmt, with fmt's text TOLD by the authors' own Lean function (tested against real Go, not proved from fmt's source: count such statements apart). THE CARD IS WHAT COUNTS. Prove the row's statement (the work); the ties are given (YtecegfjllncfmaaDoorTie.lean); close each card by the builder's one call (the guide's Derived/Test/ToyasCard.lean, 'card_holds'). Laid BY PROGRAM, IN A SANDBOX (cutbox-door.mjs). By AI agents, Wed Nov 11 2026. No macro, syntax, notation, axiom, sorry.
-/
import Derived.Test.YtecegfjllncfmaaDoorRows
import GoSem.ClaimSeven
namespace Go.Proofs.YtecegfjllncfmaaDoor
namespace Rows

/-- THE TIED CARD OF 'lorrylaw07.TravelChecks'. -/
def travelChecksCard : Claim7 := { stood := { row := travelChecksRow, standIns := [], harness := (true, "fcaaf168ddff1199547e5802b115208237e2cd008bd982bd2fe0a4426d74c9f9"), looks := false }, kinds := [], alts := [], laidByText := true, laidKinds := [.data, .data, .data], laidTests := true, laidLooks := .later }
def TravelChecksCardSaid : Prop := Claim7.holds Tryd.pinned (.plain (OpenSpec.ofChange travelChecksSpec)) travelChecksCard

/-- THE TIED CARD OF 'lorrylaw07.TravelArrives'. -/
def travelArrivesCard : Claim7 := { stood := { row := travelArrivesRow, standIns := [], harness := (true, "fcaaf168ddff1199547e5802b115208237e2cd008bd982bd2fe0a4426d74c9f9"), looks := false }, kinds := [], alts := [], laidByText := true, laidKinds := [.data, .data, .data], laidTests := true, laidLooks := .later }
def TravelArrivesCardSaid : Prop := Claim7.holds Tryd.pinned (.plain (OpenSpec.ofChange travelArrivesSpec)) travelArrivesCard

/-- THE TIED CARD OF 'lorrylaw07.TravelWaits'. -/
def travelWaitsCard : Claim7 := { stood := { row := travelWaitsRow, standIns := [], harness := (true, "fcaaf168ddff1199547e5802b115208237e2cd008bd982bd2fe0a4426d74c9f9"), looks := false }, kinds := [], alts := [], laidByText := true, laidKinds := [.data, .data, .data], laidTests := true, laidLooks := .later }
def TravelWaitsCardSaid : Prop := Claim7.holds Tryd.pinned (.plain (OpenSpec.ofChange travelWaitsSpec)) travelWaitsCard

/-- THE TIED CARD OF 'lorrylaw07.TravelSlows'. -/
def travelSlowsCard : Claim7 := { stood := { row := travelSlowsRow, standIns := [], harness := (true, "fcaaf168ddff1199547e5802b115208237e2cd008bd982bd2fe0a4426d74c9f9"), looks := false }, kinds := [], alts := [], laidByText := true, laidKinds := [.data, .data, .data], laidTests := true, laidLooks := .later }
def TravelSlowsCardSaid : Prop := Claim7.holds Tryd.pinned (.plain (OpenSpec.ofChange travelSlowsSpec)) travelSlowsCard

/-- THE TIED CARD OF 'lorrylaw07.TravelDelays'. -/
def travelDelaysCard : Claim7 := { stood := { row := travelDelaysRow, standIns := [], harness := (true, "fcaaf168ddff1199547e5802b115208237e2cd008bd982bd2fe0a4426d74c9f9"), looks := false }, kinds := [], alts := [], laidByText := true, laidKinds := [.data, .data, .data], laidTests := true, laidLooks := .later }
def TravelDelaysCardSaid : Prop := Claim7.holds Tryd.pinned (.plain (OpenSpec.ofChange travelDelaysSpec)) travelDelaysCard

/-- THE TIED CARD OF 'lorrylaw07.TravelSame'. -/
def travelSameCard : Claim7 := { stood := { row := travelSameRow, standIns := [], harness := (true, "fcaaf168ddff1199547e5802b115208237e2cd008bd982bd2fe0a4426d74c9f9"), looks := false }, kinds := [], alts := [], laidByText := true, laidKinds := [.data, .data, .data], laidTests := true, laidLooks := .later }
def TravelSameCardSaid : Prop := Claim7.holds Tryd.pinned (.plain (OpenSpec.ofChange travelSameSpec)) travelSameCard

/-- THE SECOND FORM's CARD OF 'lorrylaw07.TravelChecks'. -/
def travelChecksUptoCard : Claim7 := { stood := { row := travelChecksUptoRow, standIns := [], harness := (true, "fcaaf168ddff1199547e5802b115208237e2cd008bd982bd2fe0a4426d74c9f9"), looks := false }, kinds := [], alts := [], laidByText := true, laidKinds := [.data, .data, .data], laidTests := true, laidLooks := .later }
def TravelChecksUptoCardSaid : Prop := Claim7.holds Tryd.pinned (.plain (OpenSpec.upto travelChecksSpec)) travelChecksUptoCard

/-- THE SECOND FORM's CARD OF 'lorrylaw07.TravelArrives'. -/
def travelArrivesUptoCard : Claim7 := { stood := { row := travelArrivesUptoRow, standIns := [], harness := (true, "fcaaf168ddff1199547e5802b115208237e2cd008bd982bd2fe0a4426d74c9f9"), looks := false }, kinds := [], alts := [], laidByText := true, laidKinds := [.data, .data, .data], laidTests := true, laidLooks := .later }
def TravelArrivesUptoCardSaid : Prop := Claim7.holds Tryd.pinned (.plain (OpenSpec.upto travelArrivesSpec)) travelArrivesUptoCard

/-- THE SECOND FORM's CARD OF 'lorrylaw07.TravelWaits'. -/
def travelWaitsUptoCard : Claim7 := { stood := { row := travelWaitsUptoRow, standIns := [], harness := (true, "fcaaf168ddff1199547e5802b115208237e2cd008bd982bd2fe0a4426d74c9f9"), looks := false }, kinds := [], alts := [], laidByText := true, laidKinds := [.data, .data, .data], laidTests := true, laidLooks := .later }
def TravelWaitsUptoCardSaid : Prop := Claim7.holds Tryd.pinned (.plain (OpenSpec.upto travelWaitsSpec)) travelWaitsUptoCard

/-- THE SECOND FORM's CARD OF 'lorrylaw07.TravelSlows'. -/
def travelSlowsUptoCard : Claim7 := { stood := { row := travelSlowsUptoRow, standIns := [], harness := (true, "fcaaf168ddff1199547e5802b115208237e2cd008bd982bd2fe0a4426d74c9f9"), looks := false }, kinds := [], alts := [], laidByText := true, laidKinds := [.data, .data, .data], laidTests := true, laidLooks := .later }
def TravelSlowsUptoCardSaid : Prop := Claim7.holds Tryd.pinned (.plain (OpenSpec.upto travelSlowsSpec)) travelSlowsUptoCard

/-- THE SECOND FORM's CARD OF 'lorrylaw07.TravelDelays'. -/
def travelDelaysUptoCard : Claim7 := { stood := { row := travelDelaysUptoRow, standIns := [], harness := (true, "fcaaf168ddff1199547e5802b115208237e2cd008bd982bd2fe0a4426d74c9f9"), looks := false }, kinds := [], alts := [], laidByText := true, laidKinds := [.data, .data, .data], laidTests := true, laidLooks := .later }
def TravelDelaysUptoCardSaid : Prop := Claim7.holds Tryd.pinned (.plain (OpenSpec.upto travelDelaysSpec)) travelDelaysUptoCard

/-- THE SECOND FORM's CARD OF 'lorrylaw07.TravelSame'. -/
def travelSameUptoCard : Claim7 := { stood := { row := travelSameUptoRow, standIns := [], harness := (true, "fcaaf168ddff1199547e5802b115208237e2cd008bd982bd2fe0a4426d74c9f9"), looks := false }, kinds := [], alts := [], laidByText := true, laidKinds := [.data, .data, .data], laidTests := true, laidLooks := .later }
def TravelSameUptoCardSaid : Prop := Claim7.holds Tryd.pinned (.plain (OpenSpec.upto travelSameSpec)) travelSameUptoCard
end Rows
end Go.Proofs.YtecegfjllncfmaaDoor
