/-
  DERIVED. GIVEN WITH THE SEED: THE CARDS: each row of YtalfonpkefhlmaaDoorRows.lean that lists a variable, with what it lists TIED to the program's text (the seventh form; the later family's looks); each row that meets fmt, with fmt's text TOLD by the authors' own Lean function (tested against real Go, not proved from fmt's source: count such statements apart). THE CARD IS WHAT COUNTS. Prove the row's statement (the work); the ties are given (YtalfonpkefhlmaaDoorTie.lean); close each card by the builder's one call (the guide's Derived/Test/ToyasCard.lean, 'card_holds'). Laid BY PROGRAM, IN A SANDBOX (cutbox-door.mjs). By AI agents, Wed Nov 11 2026. No macro, syntax, notation, axiom, sorry.
-/
import Derived.Test.YtalfonpkefhlmaaDoorRows
import GoSem.ClaimSeven
namespace Go.Proofs.YtalfonpkefhlmaaDoor
namespace Rows

/-- THE TIED CARD OF 'lorrylaw11.OrderVisits'. -/
def orderVisitsCard : Claim7 := { stood := { row := orderVisitsRow, standIns := [], harness := (true, "bce7e6b35c52c2e89b250717bac14bc81f3860c4928719a305a6fcce3eb03f9b"), looks := false }, kinds := [], alts := [], laidByText := true, laidKinds := [.data, .data, .data], laidTests := true, laidLooks := .later }
def OrderVisitsCardSaid : Prop := Claim7.holds Tryd.pinned (.plain (OpenSpec.ofChange orderVisitsSpec)) orderVisitsCard

/-- THE TIED CARD OF 'lorrylaw11.OrderLoads'. -/
def orderLoadsCard : Claim7 := { stood := { row := orderLoadsRow, standIns := [], harness := (true, "bce7e6b35c52c2e89b250717bac14bc81f3860c4928719a305a6fcce3eb03f9b"), looks := false }, kinds := [], alts := [], laidByText := true, laidKinds := [.data, .data, .data], laidTests := true, laidLooks := .later }
def OrderLoadsCardSaid : Prop := Claim7.holds Tryd.pinned (.plain (OpenSpec.ofChange orderLoadsSpec)) orderLoadsCard

/-- THE TIED CARD OF 'lorrylaw11.OrderSame'. -/
def orderSameCard : Claim7 := { stood := { row := orderSameRow, standIns := [], harness := (true, "bce7e6b35c52c2e89b250717bac14bc81f3860c4928719a305a6fcce3eb03f9b"), looks := false }, kinds := [], alts := [], laidByText := true, laidKinds := [.data, .data, .data], laidTests := true, laidLooks := .later }
def OrderSameCardSaid : Prop := Claim7.holds Tryd.pinned (.plain (OpenSpec.ofChange orderSameSpec)) orderSameCard

/-- THE SECOND FORM's CARD OF 'lorrylaw11.OrderVisits'. -/
def orderVisitsUptoCard : Claim7 := { stood := { row := orderVisitsUptoRow, standIns := [], harness := (true, "bce7e6b35c52c2e89b250717bac14bc81f3860c4928719a305a6fcce3eb03f9b"), looks := false }, kinds := [], alts := [], laidByText := true, laidKinds := [.data, .data, .data], laidTests := true, laidLooks := .later }
def OrderVisitsUptoCardSaid : Prop := Claim7.holds Tryd.pinned (.plain (OpenSpec.upto orderVisitsSpec)) orderVisitsUptoCard

/-- THE SECOND FORM's CARD OF 'lorrylaw11.OrderLoads'. -/
def orderLoadsUptoCard : Claim7 := { stood := { row := orderLoadsUptoRow, standIns := [], harness := (true, "bce7e6b35c52c2e89b250717bac14bc81f3860c4928719a305a6fcce3eb03f9b"), looks := false }, kinds := [], alts := [], laidByText := true, laidKinds := [.data, .data, .data], laidTests := true, laidLooks := .later }
def OrderLoadsUptoCardSaid : Prop := Claim7.holds Tryd.pinned (.plain (OpenSpec.upto orderLoadsSpec)) orderLoadsUptoCard

/-- THE SECOND FORM's CARD OF 'lorrylaw11.OrderSame'. -/
def orderSameUptoCard : Claim7 := { stood := { row := orderSameUptoRow, standIns := [], harness := (true, "bce7e6b35c52c2e89b250717bac14bc81f3860c4928719a305a6fcce3eb03f9b"), looks := false }, kinds := [], alts := [], laidByText := true, laidKinds := [.data, .data, .data], laidTests := true, laidLooks := .later }
def OrderSameUptoCardSaid : Prop := Claim7.holds Tryd.pinned (.plain (OpenSpec.upto orderSameSpec)) orderSameUptoCard
end Rows
end Go.Proofs.YtalfonpkefhlmaaDoor
