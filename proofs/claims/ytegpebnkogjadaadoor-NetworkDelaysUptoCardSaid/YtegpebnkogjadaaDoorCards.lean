/-
  DERIVED. GIVEN WITH THE SEED: THE CARDS: each row of YtegpebnkogjadaaDoorRows.lean that lists a variable, with what it lists TIED to the program's text (the seventh form; the later family's looks); each row that meets fmt, with fmt's text TOLD by the authors' own Lean function (tested against real Go, not proved from fmt's source: count such statements apart). THE CARD IS WHAT COUNTS. Prove the row's statement (the work); the ties are given (YtegpebnkogjadaaDoorTie.lean); close each card by the builder's one call (the guide's Derived/Test/ToyasCard.lean, 'card_holds'). Laid BY PROGRAM, IN A SANDBOX (cutbox-door.mjs). By AI agents, Wed Nov 11 2026. No macro, syntax, notation, axiom, sorry.
-/
import Derived.Test.YtegpebnkogjadaaDoorRows
import GoSem.ClaimSeven
namespace Go.Proofs.YtegpebnkogjadaaDoor
namespace Rows

/-- THE TIED CARD OF 'lorrylaw09.NetworkChecks'. -/
def networkChecksCard : Claim7 := { stood := { row := networkChecksRow, standIns := [], harness := (true, "145fe93964c838ffc1e577c074d0387a72d28532d4d1abd3e544594f51857d32"), looks := false }, kinds := [], alts := [], laidByText := true, laidKinds := [.data, .data, .data], laidTests := true, laidLooks := .later }
def NetworkChecksCardSaid : Prop := Claim7.holds Tryd.pinned (.plain (OpenSpec.ofChange networkChecksSpec)) networkChecksCard

/-- THE TIED CARD OF 'lorrylaw09.NetworkGoes'. -/
def networkGoesCard : Claim7 := { stood := { row := networkGoesRow, standIns := [], harness := (true, "145fe93964c838ffc1e577c074d0387a72d28532d4d1abd3e544594f51857d32"), looks := false }, kinds := [], alts := [], laidByText := true, laidKinds := [.data, .data, .data], laidTests := true, laidLooks := .later }
def NetworkGoesCardSaid : Prop := Claim7.holds Tryd.pinned (.plain (OpenSpec.ofChange networkGoesSpec)) networkGoesCard

/-- THE TIED CARD OF 'lorrylaw09.NetworkEarliest'. -/
def networkEarliestCard : Claim7 := { stood := { row := networkEarliestRow, standIns := [], harness := (true, "145fe93964c838ffc1e577c074d0387a72d28532d4d1abd3e544594f51857d32"), looks := false }, kinds := [], alts := [], laidByText := true, laidKinds := [.data, .data, .data], laidTests := true, laidLooks := .later }
def NetworkEarliestCardSaid : Prop := Claim7.holds Tryd.pinned (.plain (OpenSpec.ofChange networkEarliestSpec)) networkEarliestCard

/-- THE TIED CARD OF 'lorrylaw09.NetworkSlower'. -/
def networkSlowerCard : Claim7 := { stood := { row := networkSlowerRow, standIns := [], harness := (true, "145fe93964c838ffc1e577c074d0387a72d28532d4d1abd3e544594f51857d32"), looks := false }, kinds := [], alts := [], laidByText := true, laidKinds := [.data, .data, .data], laidTests := true, laidLooks := .later }
def NetworkSlowerCardSaid : Prop := Claim7.holds Tryd.pinned (.plain (OpenSpec.ofChange networkSlowerSpec)) networkSlowerCard

/-- THE TIED CARD OF 'lorrylaw09.NetworkDelays'. -/
def networkDelaysCard : Claim7 := { stood := { row := networkDelaysRow, standIns := [], harness := (true, "145fe93964c838ffc1e577c074d0387a72d28532d4d1abd3e544594f51857d32"), looks := false }, kinds := [], alts := [], laidByText := true, laidKinds := [.data, .data, .data], laidTests := true, laidLooks := .later }
def NetworkDelaysCardSaid : Prop := Claim7.holds Tryd.pinned (.plain (OpenSpec.ofChange networkDelaysSpec)) networkDelaysCard

/-- THE SECOND FORM's CARD OF 'lorrylaw09.NetworkChecks'. -/
def networkChecksUptoCard : Claim7 := { stood := { row := networkChecksUptoRow, standIns := [], harness := (true, "145fe93964c838ffc1e577c074d0387a72d28532d4d1abd3e544594f51857d32"), looks := false }, kinds := [], alts := [], laidByText := true, laidKinds := [.data, .data, .data], laidTests := true, laidLooks := .later }
def NetworkChecksUptoCardSaid : Prop := Claim7.holds Tryd.pinned (.plain (OpenSpec.upto networkChecksSpec)) networkChecksUptoCard

/-- THE SECOND FORM's CARD OF 'lorrylaw09.NetworkGoes'. -/
def networkGoesUptoCard : Claim7 := { stood := { row := networkGoesUptoRow, standIns := [], harness := (true, "145fe93964c838ffc1e577c074d0387a72d28532d4d1abd3e544594f51857d32"), looks := false }, kinds := [], alts := [], laidByText := true, laidKinds := [.data, .data, .data], laidTests := true, laidLooks := .later }
def NetworkGoesUptoCardSaid : Prop := Claim7.holds Tryd.pinned (.plain (OpenSpec.upto networkGoesSpec)) networkGoesUptoCard

/-- THE SECOND FORM's CARD OF 'lorrylaw09.NetworkEarliest'. -/
def networkEarliestUptoCard : Claim7 := { stood := { row := networkEarliestUptoRow, standIns := [], harness := (true, "145fe93964c838ffc1e577c074d0387a72d28532d4d1abd3e544594f51857d32"), looks := false }, kinds := [], alts := [], laidByText := true, laidKinds := [.data, .data, .data], laidTests := true, laidLooks := .later }
def NetworkEarliestUptoCardSaid : Prop := Claim7.holds Tryd.pinned (.plain (OpenSpec.upto networkEarliestSpec)) networkEarliestUptoCard

/-- THE SECOND FORM's CARD OF 'lorrylaw09.NetworkSlower'. -/
def networkSlowerUptoCard : Claim7 := { stood := { row := networkSlowerUptoRow, standIns := [], harness := (true, "145fe93964c838ffc1e577c074d0387a72d28532d4d1abd3e544594f51857d32"), looks := false }, kinds := [], alts := [], laidByText := true, laidKinds := [.data, .data, .data], laidTests := true, laidLooks := .later }
def NetworkSlowerUptoCardSaid : Prop := Claim7.holds Tryd.pinned (.plain (OpenSpec.upto networkSlowerSpec)) networkSlowerUptoCard

/-- THE SECOND FORM's CARD OF 'lorrylaw09.NetworkDelays'. -/
def networkDelaysUptoCard : Claim7 := { stood := { row := networkDelaysUptoRow, standIns := [], harness := (true, "145fe93964c838ffc1e577c074d0387a72d28532d4d1abd3e544594f51857d32"), looks := false }, kinds := [], alts := [], laidByText := true, laidKinds := [.data, .data, .data], laidTests := true, laidLooks := .later }
def NetworkDelaysUptoCardSaid : Prop := Claim7.holds Tryd.pinned (.plain (OpenSpec.upto networkDelaysSpec)) networkDelaysUptoCard
end Rows
end Go.Proofs.YtegpebnkogjadaaDoor
