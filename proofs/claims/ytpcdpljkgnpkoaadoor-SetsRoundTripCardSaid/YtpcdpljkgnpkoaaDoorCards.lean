/-
  DERIVED. GIVEN WITH THE SEED: THE CARDS: each row of YtpcdpljkgnpkoaaDoorRows.lean that lists a variable, with what it lists TIED to the program's text (the seventh form; the later family's looks); each row that meets fmt, with fmt's text TOLD by the authors' own Lean function (tested against real Go, not proved from fmt's source: count such statements apart). THE CARD IS WHAT COUNTS. Prove the row's statement (the work); the ties are given (YtpcdpljkgnpkoaaDoorTie.lean); close each card by the builder's one call (the guide's Derived/Test/ToyasCard.lean, 'card_holds'). Laid BY PROGRAM, IN A SANDBOX (cutbox-door.mjs). By AI agents, Wed Nov 11 2026. No macro, syntax, notation, axiom, sorry.
-/
import Derived.Test.YtpcdpljkgnpkoaaDoorRows
import GoSem.ClaimSeven
namespace Go.Proofs.YtpcdpljkgnpkoaaDoor
namespace Rows

/-- THE TIED CARD OF 'lorrylaw05.SetsTell'. -/
def setsTellCard : Claim7 := { stood := { row := setsTellRow, standIns := [], harness := (true, "208e2c606e76b51e972ae839d31e8f6b7b63cd9f38aef8b92f4f4476cb78ea37"), looks := false }, kinds := [], alts := [], laidByText := true, laidKinds := [.data, .data], laidTests := true, laidLooks := .later }
def SetsTellCardSaid : Prop := Claim7.holds Tryd.pinned (.plain (OpenSpec.ofChange setsTellSpec)) setsTellCard

/-- THE TIED CARD OF 'lorrylaw05.SetsRoundTrip'. -/
def setsRoundTripCard : Claim7 := { stood := { row := setsRoundTripRow, standIns := [], harness := (true, "208e2c606e76b51e972ae839d31e8f6b7b63cd9f38aef8b92f4f4476cb78ea37"), looks := false }, kinds := [], alts := [], laidByText := true, laidKinds := [.data, .data], laidTests := true, laidLooks := .later }
def SetsRoundTripCardSaid : Prop := Claim7.holds Tryd.pinned (.plain (OpenSpec.ofChange setsRoundTripSpec)) setsRoundTripCard

/-- THE TIED CARD OF 'lorrylaw05.SetsSubsets'. -/
def setsSubsetsCard : Claim7 := { stood := { row := setsSubsetsRow, standIns := [], harness := (true, "208e2c606e76b51e972ae839d31e8f6b7b63cd9f38aef8b92f4f4476cb78ea37"), looks := false }, kinds := [], alts := [], laidByText := true, laidKinds := [.data, .data], laidTests := true, laidLooks := .later }
def SetsSubsetsCardSaid : Prop := Claim7.holds Tryd.pinned (.plain (OpenSpec.ofChange setsSubsetsSpec)) setsSubsetsCard

/-- THE TIED CARD OF 'lorrylaw05.SetsSized'. -/
def setsSizedCard : Claim7 := { stood := { row := setsSizedRow, standIns := [], harness := (true, "208e2c606e76b51e972ae839d31e8f6b7b63cd9f38aef8b92f4f4476cb78ea37"), looks := false }, kinds := [], alts := [], laidByText := true, laidKinds := [.data, .data], laidTests := true, laidLooks := .later }
def SetsSizedCardSaid : Prop := Claim7.holds Tryd.pinned (.plain (OpenSpec.ofChange setsSizedSpec)) setsSizedCard

/-- THE SECOND FORM's CARD OF 'lorrylaw05.SetsTell'. -/
def setsTellUptoCard : Claim7 := { stood := { row := setsTellUptoRow, standIns := [], harness := (true, "208e2c606e76b51e972ae839d31e8f6b7b63cd9f38aef8b92f4f4476cb78ea37"), looks := false }, kinds := [], alts := [], laidByText := true, laidKinds := [.data, .data], laidTests := true, laidLooks := .later }
def SetsTellUptoCardSaid : Prop := Claim7.holds Tryd.pinned (.plain (OpenSpec.upto setsTellSpec)) setsTellUptoCard

/-- THE SECOND FORM's CARD OF 'lorrylaw05.SetsRoundTrip'. -/
def setsRoundTripUptoCard : Claim7 := { stood := { row := setsRoundTripUptoRow, standIns := [], harness := (true, "208e2c606e76b51e972ae839d31e8f6b7b63cd9f38aef8b92f4f4476cb78ea37"), looks := false }, kinds := [], alts := [], laidByText := true, laidKinds := [.data, .data], laidTests := true, laidLooks := .later }
def SetsRoundTripUptoCardSaid : Prop := Claim7.holds Tryd.pinned (.plain (OpenSpec.upto setsRoundTripSpec)) setsRoundTripUptoCard

/-- THE SECOND FORM's CARD OF 'lorrylaw05.SetsSubsets'. -/
def setsSubsetsUptoCard : Claim7 := { stood := { row := setsSubsetsUptoRow, standIns := [], harness := (true, "208e2c606e76b51e972ae839d31e8f6b7b63cd9f38aef8b92f4f4476cb78ea37"), looks := false }, kinds := [], alts := [], laidByText := true, laidKinds := [.data, .data], laidTests := true, laidLooks := .later }
def SetsSubsetsUptoCardSaid : Prop := Claim7.holds Tryd.pinned (.plain (OpenSpec.upto setsSubsetsSpec)) setsSubsetsUptoCard

/-- THE SECOND FORM's CARD OF 'lorrylaw05.SetsSized'. -/
def setsSizedUptoCard : Claim7 := { stood := { row := setsSizedUptoRow, standIns := [], harness := (true, "208e2c606e76b51e972ae839d31e8f6b7b63cd9f38aef8b92f4f4476cb78ea37"), looks := false }, kinds := [], alts := [], laidByText := true, laidKinds := [.data, .data], laidTests := true, laidLooks := .later }
def SetsSizedUptoCardSaid : Prop := Claim7.holds Tryd.pinned (.plain (OpenSpec.upto setsSizedSpec)) setsSizedUptoCard
end Rows
end Go.Proofs.YtpcdpljkgnpkoaaDoor
