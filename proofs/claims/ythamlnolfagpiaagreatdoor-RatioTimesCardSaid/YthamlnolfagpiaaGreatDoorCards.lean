/-
  DERIVED. GIVEN WITH THE SEED: THE CARDS: each row of YthamlnolfagpiaaGreatDoorRows.lean that lists a variable, with what it lists TIED to the program's text (the seventh form; the later family's looks); each row that meets fmt, with fmt's text TOLD by the authors' own Lean function (tested against real Go, not proved from fmt's source: count such statements apart). THE CARD IS WHAT COUNTS. Prove the row's statement (the work); the ties are given (YthamlnolfagpiaaGreatDoorTie.lean); close each card by the builder's one call (the guide's Derived/Test/ToyasCard.lean, 'card_holds'). Laid BY PROGRAM, IN A SANDBOX (cutbox-door.mjs). By AI agents, Wed Nov 11 2026. No macro, syntax, notation, axiom, sorry.
-/
import Derived.Test.YthamlnolfagpiaaGreatDoorRows
import GoSem.ClaimSeven
namespace Go.Proofs.YthamlnolfagpiaaGreatDoor
namespace Rows

/-- THE TIED CARD OF 'lorrylaw04.RatioRights'. -/
def ratioRightsCard : Claim7 := { stood := { row := ratioRightsRow, standIns := [], harness := (true, "edccf7df6b98c876426f581349c714ba03975f17c9d93ded99c0e73ae0534e6d"), looks := true }, kinds := [], alts := [], laidByText := true, laidKinds := [.data, .data, .data, .data, .sentinel, .sentinel, .pinned], laidTests := true, laidLooks := .later }
def RatioRightsCardSaid : Prop := Claim7.holds Tryz.pinned (.plain (OpenSpec.ofChange ratioRightsSpec)) ratioRightsCard

/-- THE TIED CARD OF 'lorrylaw04.RatioReckons'. -/
def ratioReckonsCard : Claim7 := { stood := { row := ratioReckonsRow, standIns := [], harness := (true, "edccf7df6b98c876426f581349c714ba03975f17c9d93ded99c0e73ae0534e6d"), looks := true }, kinds := [], alts := [], laidByText := true, laidKinds := [.data, .data, .data, .data, .sentinel, .sentinel, .pinned], laidTests := true, laidLooks := .later }
def RatioReckonsCardSaid : Prop := Claim7.holds Tryz.pinned (.plain (OpenSpec.ofChange ratioReckonsSpec)) ratioReckonsCard

/-- THE TIED CARD OF 'lorrylaw04.RatioMakes'. -/
def ratioMakesCard : Claim7 := { stood := { row := ratioMakesRow, standIns := [], harness := (true, "edccf7df6b98c876426f581349c714ba03975f17c9d93ded99c0e73ae0534e6d"), looks := true }, kinds := [], alts := [], laidByText := true, laidKinds := [.data, .data, .data, .data, .sentinel, .sentinel, .pinned], laidTests := true, laidLooks := .later }
def RatioMakesCardSaid : Prop := Claim7.holds Tryz.pinned (.plain (OpenSpec.ofChange ratioMakesSpec)) ratioMakesCard

/-- THE TIED CARD OF 'lorrylaw04.RatioField'. -/
def ratioFieldCard : Claim7 := { stood := { row := ratioFieldRow, standIns := [], harness := (true, "edccf7df6b98c876426f581349c714ba03975f17c9d93ded99c0e73ae0534e6d"), looks := true }, kinds := [], alts := [], laidByText := true, laidKinds := [.data, .data, .data, .data, .sentinel, .sentinel, .pinned], laidTests := true, laidLooks := .later }
def RatioFieldCardSaid : Prop := Claim7.holds Tryz.pinned (.plain (OpenSpec.ofChange ratioFieldSpec)) ratioFieldCard

/-- THE TIED CARD OF 'lorrylaw04.RatioOrders'. -/
def ratioOrdersCard : Claim7 := { stood := { row := ratioOrdersRow, standIns := [], harness := (true, "edccf7df6b98c876426f581349c714ba03975f17c9d93ded99c0e73ae0534e6d"), looks := true }, kinds := [], alts := [], laidByText := true, laidKinds := [.data, .data, .data, .data, .sentinel, .sentinel, .pinned], laidTests := true, laidLooks := .later }
def RatioOrdersCardSaid : Prop := Claim7.holds Tryz.pinned (.plain (OpenSpec.ofChange ratioOrdersSpec)) ratioOrdersCard

/-- THE TIED CARD OF 'lorrylaw04.RatioTimes'. -/
def ratioTimesCard : Claim7 := { stood := { row := ratioTimesRow, standIns := [], harness := (true, "edccf7df6b98c876426f581349c714ba03975f17c9d93ded99c0e73ae0534e6d"), looks := true }, kinds := [], alts := [], laidByText := true, laidKinds := [.data, .data, .data, .data, .sentinel, .sentinel, .pinned], laidTests := true, laidLooks := .later }
def RatioTimesCardSaid : Prop := Claim7.holds Tryz.pinned (.plain (OpenSpec.ofChange ratioTimesSpec)) ratioTimesCard

/-- THE TIED CARD OF 'lorrylaw04.RatioLarge'. -/
def ratioLargeCard : Claim7 := { stood := { row := ratioLargeRow, standIns := [], harness := (true, "edccf7df6b98c876426f581349c714ba03975f17c9d93ded99c0e73ae0534e6d"), looks := true }, kinds := [], alts := [], laidByText := true, laidKinds := [.data, .data, .data, .data, .sentinel, .sentinel, .pinned], laidTests := true, laidLooks := .later }
def RatioLargeCardSaid : Prop := Claim7.holds Tryz.pinned (.plain (OpenSpec.ofChange ratioLargeSpec)) ratioLargeCard

/-- THE SECOND FORM's CARD OF 'lorrylaw04.RatioRights'. -/
def ratioRightsUptoCard : Claim7 := { stood := { row := ratioRightsUptoRow, standIns := [], harness := (true, "edccf7df6b98c876426f581349c714ba03975f17c9d93ded99c0e73ae0534e6d"), looks := true }, kinds := [], alts := [], laidByText := true, laidKinds := [.data, .data, .data, .data, .sentinel, .sentinel, .pinned], laidTests := true, laidLooks := .later }
def RatioRightsUptoCardSaid : Prop := Claim7.holds Tryz.pinned (.plain (OpenSpec.upto ratioRightsSpec)) ratioRightsUptoCard

/-- THE SECOND FORM's CARD OF 'lorrylaw04.RatioReckons'. -/
def ratioReckonsUptoCard : Claim7 := { stood := { row := ratioReckonsUptoRow, standIns := [], harness := (true, "edccf7df6b98c876426f581349c714ba03975f17c9d93ded99c0e73ae0534e6d"), looks := true }, kinds := [], alts := [], laidByText := true, laidKinds := [.data, .data, .data, .data, .sentinel, .sentinel, .pinned], laidTests := true, laidLooks := .later }
def RatioReckonsUptoCardSaid : Prop := Claim7.holds Tryz.pinned (.plain (OpenSpec.upto ratioReckonsSpec)) ratioReckonsUptoCard

/-- THE SECOND FORM's CARD OF 'lorrylaw04.RatioMakes'. -/
def ratioMakesUptoCard : Claim7 := { stood := { row := ratioMakesUptoRow, standIns := [], harness := (true, "edccf7df6b98c876426f581349c714ba03975f17c9d93ded99c0e73ae0534e6d"), looks := true }, kinds := [], alts := [], laidByText := true, laidKinds := [.data, .data, .data, .data, .sentinel, .sentinel, .pinned], laidTests := true, laidLooks := .later }
def RatioMakesUptoCardSaid : Prop := Claim7.holds Tryz.pinned (.plain (OpenSpec.upto ratioMakesSpec)) ratioMakesUptoCard

/-- THE SECOND FORM's CARD OF 'lorrylaw04.RatioField'. -/
def ratioFieldUptoCard : Claim7 := { stood := { row := ratioFieldUptoRow, standIns := [], harness := (true, "edccf7df6b98c876426f581349c714ba03975f17c9d93ded99c0e73ae0534e6d"), looks := true }, kinds := [], alts := [], laidByText := true, laidKinds := [.data, .data, .data, .data, .sentinel, .sentinel, .pinned], laidTests := true, laidLooks := .later }
def RatioFieldUptoCardSaid : Prop := Claim7.holds Tryz.pinned (.plain (OpenSpec.upto ratioFieldSpec)) ratioFieldUptoCard

/-- THE SECOND FORM's CARD OF 'lorrylaw04.RatioOrders'. -/
def ratioOrdersUptoCard : Claim7 := { stood := { row := ratioOrdersUptoRow, standIns := [], harness := (true, "edccf7df6b98c876426f581349c714ba03975f17c9d93ded99c0e73ae0534e6d"), looks := true }, kinds := [], alts := [], laidByText := true, laidKinds := [.data, .data, .data, .data, .sentinel, .sentinel, .pinned], laidTests := true, laidLooks := .later }
def RatioOrdersUptoCardSaid : Prop := Claim7.holds Tryz.pinned (.plain (OpenSpec.upto ratioOrdersSpec)) ratioOrdersUptoCard

/-- THE SECOND FORM's CARD OF 'lorrylaw04.RatioTimes'. -/
def ratioTimesUptoCard : Claim7 := { stood := { row := ratioTimesUptoRow, standIns := [], harness := (true, "edccf7df6b98c876426f581349c714ba03975f17c9d93ded99c0e73ae0534e6d"), looks := true }, kinds := [], alts := [], laidByText := true, laidKinds := [.data, .data, .data, .data, .sentinel, .sentinel, .pinned], laidTests := true, laidLooks := .later }
def RatioTimesUptoCardSaid : Prop := Claim7.holds Tryz.pinned (.plain (OpenSpec.upto ratioTimesSpec)) ratioTimesUptoCard

/-- THE SECOND FORM's CARD OF 'lorrylaw04.RatioLarge'. -/
def ratioLargeUptoCard : Claim7 := { stood := { row := ratioLargeUptoRow, standIns := [], harness := (true, "edccf7df6b98c876426f581349c714ba03975f17c9d93ded99c0e73ae0534e6d"), looks := true }, kinds := [], alts := [], laidByText := true, laidKinds := [.data, .data, .data, .data, .sentinel, .sentinel, .pinned], laidTests := true, laidLooks := .later }
def RatioLargeUptoCardSaid : Prop := Claim7.holds Tryz.pinned (.plain (OpenSpec.upto ratioLargeSpec)) ratioLargeUptoCard
end Rows
end Go.Proofs.YthamlnolfagpiaaGreatDoor
