/-
  DERIVED. GIVEN WITH THE SEED: THE CARDS: each row of YtnapmildbodigaaDoorRows.lean that lists a variable, with what it lists TIED to the program's text (the seventh form; the later family's looks); each row that meets fmt, with fmt's text TOLD by the authors' own Lean function (tested against real Go, not proved from fmt's source: count such statements apart). THE CARD IS WHAT COUNTS. Prove the row's statement (the work); the ties are given (YtnapmildbodigaaDoorTie.lean); close each card by the builder's one call (the guide's Derived/Test/ToyasCard.lean, 'card_holds'). Laid BY PROGRAM, IN A SANDBOX (cutbox-door.mjs). By AI agents, Wed Nov 11 2026. No macro, syntax, notation, axiom, sorry.
-/
import Derived.Test.YtnapmildbodigaaDoorRows
import GoSem.ClaimSeven
namespace Go.Proofs.YtnapmildbodigaaDoor
namespace Rows

/-- THE TIED CARD OF 'lorrylaw18.DriveRuns'. -/
def driveRunsCard : Claim7 := { stood := { row := driveRunsRow, standIns := [], harness := (true, "899ef9de3a71b0af42604a380d754cf49c814b612be479f9040c4770beccc6dc"), looks := false }, kinds := [], alts := [], laidByText := true, laidKinds := [.data, .data, .data], laidTests := true, laidLooks := .later }
def DriveRunsCardSaid : Prop := Claim7.holds Tryd.pinned (.plain (OpenSpec.ofChange driveRunsSpec)) driveRunsCard

/-- THE TIED CARD OF 'lorrylaw18.DriveBest'. -/
def driveBestCard : Claim7 := { stood := { row := driveBestRow, standIns := [], harness := (true, "899ef9de3a71b0af42604a380d754cf49c814b612be479f9040c4770beccc6dc"), looks := false }, kinds := [], alts := [], laidByText := true, laidKinds := [.data, .data, .data], laidTests := true, laidLooks := .later }
def DriveBestCardSaid : Prop := Claim7.holds Tryd.pinned (.plain (OpenSpec.ofChange driveBestSpec)) driveBestCard

/-- THE TIED CARD OF 'lorrylaw18.DriveChecks'. -/
def driveChecksCard : Claim7 := { stood := { row := driveChecksRow, standIns := [], harness := (true, "899ef9de3a71b0af42604a380d754cf49c814b612be479f9040c4770beccc6dc"), looks := false }, kinds := [], alts := [], laidByText := true, laidKinds := [.data, .data, .data], laidTests := true, laidLooks := .later }
def DriveChecksCardSaid : Prop := Claim7.holds Tryd.pinned (.plain (OpenSpec.ofChange driveChecksSpec)) driveChecksCard

/-- THE TIED CARD OF 'lorrylaw18.DriveLeast'. -/
def driveLeastCard : Claim7 := { stood := { row := driveLeastRow, standIns := [], harness := (true, "899ef9de3a71b0af42604a380d754cf49c814b612be479f9040c4770beccc6dc"), looks := false }, kinds := [], alts := [], laidByText := true, laidKinds := [.data, .data, .data], laidTests := true, laidLooks := .later }
def DriveLeastCardSaid : Prop := Claim7.holds Tryd.pinned (.plain (OpenSpec.ofChange driveLeastSpec)) driveLeastCard

/-- THE TIED CARD OF 'lorrylaw18.DriveLater'. -/
def driveLaterCard : Claim7 := { stood := { row := driveLaterRow, standIns := [], harness := (true, "899ef9de3a71b0af42604a380d754cf49c814b612be479f9040c4770beccc6dc"), looks := false }, kinds := [], alts := [], laidByText := true, laidKinds := [.data, .data, .data], laidTests := true, laidLooks := .later }
def DriveLaterCardSaid : Prop := Claim7.holds Tryd.pinned (.plain (OpenSpec.ofChange driveLaterSpec)) driveLaterCard

/-- THE TIED CARD OF 'lorrylaw18.DriveTimes'. -/
def driveTimesCard : Claim7 := { stood := { row := driveTimesRow, standIns := [], harness := (true, "899ef9de3a71b0af42604a380d754cf49c814b612be479f9040c4770beccc6dc"), looks := false }, kinds := [], alts := [], laidByText := true, laidKinds := [.data, .data, .data], laidTests := true, laidLooks := .later }
def DriveTimesCardSaid : Prop := Claim7.holds Tryd.pinned (.plain (OpenSpec.ofChange driveTimesSpec)) driveTimesCard

/-- THE SECOND FORM's CARD OF 'lorrylaw18.DriveRuns'. -/
def driveRunsUptoCard : Claim7 := { stood := { row := driveRunsUptoRow, standIns := [], harness := (true, "899ef9de3a71b0af42604a380d754cf49c814b612be479f9040c4770beccc6dc"), looks := false }, kinds := [], alts := [], laidByText := true, laidKinds := [.data, .data, .data], laidTests := true, laidLooks := .later }
def DriveRunsUptoCardSaid : Prop := Claim7.holds Tryd.pinned (.plain (OpenSpec.upto driveRunsSpec)) driveRunsUptoCard

/-- THE SECOND FORM's CARD OF 'lorrylaw18.DriveBest'. -/
def driveBestUptoCard : Claim7 := { stood := { row := driveBestUptoRow, standIns := [], harness := (true, "899ef9de3a71b0af42604a380d754cf49c814b612be479f9040c4770beccc6dc"), looks := false }, kinds := [], alts := [], laidByText := true, laidKinds := [.data, .data, .data], laidTests := true, laidLooks := .later }
def DriveBestUptoCardSaid : Prop := Claim7.holds Tryd.pinned (.plain (OpenSpec.upto driveBestSpec)) driveBestUptoCard

/-- THE SECOND FORM's CARD OF 'lorrylaw18.DriveChecks'. -/
def driveChecksUptoCard : Claim7 := { stood := { row := driveChecksUptoRow, standIns := [], harness := (true, "899ef9de3a71b0af42604a380d754cf49c814b612be479f9040c4770beccc6dc"), looks := false }, kinds := [], alts := [], laidByText := true, laidKinds := [.data, .data, .data], laidTests := true, laidLooks := .later }
def DriveChecksUptoCardSaid : Prop := Claim7.holds Tryd.pinned (.plain (OpenSpec.upto driveChecksSpec)) driveChecksUptoCard

/-- THE SECOND FORM's CARD OF 'lorrylaw18.DriveLeast'. -/
def driveLeastUptoCard : Claim7 := { stood := { row := driveLeastUptoRow, standIns := [], harness := (true, "899ef9de3a71b0af42604a380d754cf49c814b612be479f9040c4770beccc6dc"), looks := false }, kinds := [], alts := [], laidByText := true, laidKinds := [.data, .data, .data], laidTests := true, laidLooks := .later }
def DriveLeastUptoCardSaid : Prop := Claim7.holds Tryd.pinned (.plain (OpenSpec.upto driveLeastSpec)) driveLeastUptoCard

/-- THE SECOND FORM's CARD OF 'lorrylaw18.DriveLater'. -/
def driveLaterUptoCard : Claim7 := { stood := { row := driveLaterUptoRow, standIns := [], harness := (true, "899ef9de3a71b0af42604a380d754cf49c814b612be479f9040c4770beccc6dc"), looks := false }, kinds := [], alts := [], laidByText := true, laidKinds := [.data, .data, .data], laidTests := true, laidLooks := .later }
def DriveLaterUptoCardSaid : Prop := Claim7.holds Tryd.pinned (.plain (OpenSpec.upto driveLaterSpec)) driveLaterUptoCard

/-- THE SECOND FORM's CARD OF 'lorrylaw18.DriveTimes'. -/
def driveTimesUptoCard : Claim7 := { stood := { row := driveTimesUptoRow, standIns := [], harness := (true, "899ef9de3a71b0af42604a380d754cf49c814b612be479f9040c4770beccc6dc"), looks := false }, kinds := [], alts := [], laidByText := true, laidKinds := [.data, .data, .data], laidTests := true, laidLooks := .later }
def DriveTimesUptoCardSaid : Prop := Claim7.holds Tryd.pinned (.plain (OpenSpec.upto driveTimesSpec)) driveTimesUptoCard
end Rows
end Go.Proofs.YtnapmildbodigaaDoor
