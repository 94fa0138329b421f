/-
  DERIVED. GIVEN WITH THE SEED: THE CARDS: each row of YtaallpebfcadjaaGreatDoorRows.lean that lists a variable, with what it lists TIED to the program's text (the seventh form; the later family's looks); each row that meets fmt, with fmt's text TOLD by the authors' own Lean function (tested against real Go, not proved from fmt's source: count such statements apart). THE CARD IS WHAT COUNTS. Prove the row's statement (the work); the ties are given (YtaallpebfcadjaaGreatDoorTie.lean); close each card by the builder's one call (the guide's Derived/Test/ToyasCard.lean, 'card_holds'). Laid BY PROGRAM, IN A SANDBOX (cutbox-door.mjs). By AI agents, Wed Nov 11 2026. No macro, syntax, notation, axiom, sorry.
-/
import Derived.Test.YtaallpebfcadjaaGreatDoorRows
import GoSem.ClaimSeven
namespace Go.Proofs.YtaallpebfcadjaaGreatDoor
namespace Rows

/-- THE TIED CARD OF 'lorrylaw13.InstanceChecks'. -/
def instanceChecksCard : Claim7 := { stood := { row := instanceChecksRow, standIns := [], harness := (true, "af6ed21f34a2223b35d493f72844958bc12d9d2699b293c890c6b3f8d61f6a65"), looks := false }, kinds := [], alts := [], laidByText := true, laidKinds := [.data, .data, .data], laidTests := true, laidLooks := .later }
def InstanceChecksCardSaid : Prop := Claim7.holds Tryz.pinned (.plain (OpenSpec.ofChange instanceChecksSpec)) instanceChecksCard

/-- THE TIED CARD OF 'lorrylaw13.InstanceSets'. -/
def instanceSetsCard : Claim7 := { stood := { row := instanceSetsRow, standIns := [], harness := (true, "af6ed21f34a2223b35d493f72844958bc12d9d2699b293c890c6b3f8d61f6a65"), looks := false }, kinds := [], alts := [], laidByText := true, laidKinds := [.data, .data, .data], laidTests := true, laidLooks := .later }
def InstanceSetsCardSaid : Prop := Claim7.holds Tryz.pinned (.plain (OpenSpec.ofChange instanceSetsSpec)) instanceSetsCard

/-- THE TIED CARD OF 'lorrylaw13.InstanceSame'. -/
def instanceSameCard : Claim7 := { stood := { row := instanceSameRow, standIns := [], harness := (true, "af6ed21f34a2223b35d493f72844958bc12d9d2699b293c890c6b3f8d61f6a65"), looks := false }, kinds := [], alts := [], laidByText := true, laidKinds := [.data, .data, .data], laidTests := true, laidLooks := .later }
def InstanceSameCardSaid : Prop := Claim7.holds Tryz.pinned (.plain (OpenSpec.ofChange instanceSameSpec)) instanceSameCard

/-- THE TIED CARD OF 'lorrylaw13.InstanceAdds'. -/
def instanceAddsCard : Claim7 := { stood := { row := instanceAddsRow, standIns := [], harness := (true, "af6ed21f34a2223b35d493f72844958bc12d9d2699b293c890c6b3f8d61f6a65"), looks := false }, kinds := [], alts := [], laidByText := true, laidKinds := [.data, .data, .data], laidTests := true, laidLooks := .later }
def InstanceAddsCardSaid : Prop := Claim7.holds Tryz.pinned (.plain (OpenSpec.ofChange instanceAddsSpec)) instanceAddsCard

/-- THE TIED CARD OF 'lorrylaw13.InstanceParts'. -/
def instancePartsCard : Claim7 := { stood := { row := instancePartsRow, standIns := [], harness := (true, "af6ed21f34a2223b35d493f72844958bc12d9d2699b293c890c6b3f8d61f6a65"), looks := false }, kinds := [], alts := [], laidByText := true, laidKinds := [.data, .data, .data], laidTests := true, laidLooks := .later }
def InstancePartsCardSaid : Prop := Claim7.holds Tryz.pinned (.plain (OpenSpec.ofChange instancePartsSpec)) instancePartsCard

/-- THE SECOND FORM's CARD OF 'lorrylaw13.InstanceChecks'. -/
def instanceChecksUptoCard : Claim7 := { stood := { row := instanceChecksUptoRow, standIns := [], harness := (true, "af6ed21f34a2223b35d493f72844958bc12d9d2699b293c890c6b3f8d61f6a65"), looks := false }, kinds := [], alts := [], laidByText := true, laidKinds := [.data, .data, .data], laidTests := true, laidLooks := .later }
def InstanceChecksUptoCardSaid : Prop := Claim7.holds Tryz.pinned (.plain (OpenSpec.upto instanceChecksSpec)) instanceChecksUptoCard

/-- THE SECOND FORM's CARD OF 'lorrylaw13.InstanceSets'. -/
def instanceSetsUptoCard : Claim7 := { stood := { row := instanceSetsUptoRow, standIns := [], harness := (true, "af6ed21f34a2223b35d493f72844958bc12d9d2699b293c890c6b3f8d61f6a65"), looks := false }, kinds := [], alts := [], laidByText := true, laidKinds := [.data, .data, .data], laidTests := true, laidLooks := .later }
def InstanceSetsUptoCardSaid : Prop := Claim7.holds Tryz.pinned (.plain (OpenSpec.upto instanceSetsSpec)) instanceSetsUptoCard

/-- THE SECOND FORM's CARD OF 'lorrylaw13.InstanceSame'. -/
def instanceSameUptoCard : Claim7 := { stood := { row := instanceSameUptoRow, standIns := [], harness := (true, "af6ed21f34a2223b35d493f72844958bc12d9d2699b293c890c6b3f8d61f6a65"), looks := false }, kinds := [], alts := [], laidByText := true, laidKinds := [.data, .data, .data], laidTests := true, laidLooks := .later }
def InstanceSameUptoCardSaid : Prop := Claim7.holds Tryz.pinned (.plain (OpenSpec.upto instanceSameSpec)) instanceSameUptoCard

/-- THE SECOND FORM's CARD OF 'lorrylaw13.InstanceAdds'. -/
def instanceAddsUptoCard : Claim7 := { stood := { row := instanceAddsUptoRow, standIns := [], harness := (true, "af6ed21f34a2223b35d493f72844958bc12d9d2699b293c890c6b3f8d61f6a65"), looks := false }, kinds := [], alts := [], laidByText := true, laidKinds := [.data, .data, .data], laidTests := true, laidLooks := .later }
def InstanceAddsUptoCardSaid : Prop := Claim7.holds Tryz.pinned (.plain (OpenSpec.upto instanceAddsSpec)) instanceAddsUptoCard

/-- THE SECOND FORM's CARD OF 'lorrylaw13.InstanceParts'. -/
def instancePartsUptoCard : Claim7 := { stood := { row := instancePartsUptoRow, standIns := [], harness := (true, "af6ed21f34a2223b35d493f72844958bc12d9d2699b293c890c6b3f8d61f6a65"), looks := false }, kinds := [], alts := [], laidByText := true, laidKinds := [.data, .data, .data], laidTests := true, laidLooks := .later }
def InstancePartsUptoCardSaid : Prop := Claim7.holds Tryz.pinned (.plain (OpenSpec.upto instancePartsSpec)) instancePartsUptoCard
end Rows
end Go.Proofs.YtaallpebfcadjaaGreatDoor
