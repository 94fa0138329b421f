/-
  No cell of these rows narrows 'for every input' (looked for: loops, veiled, ifaces, maps, wideKeys, modest, calm, conditions, laid).
  DERIVED. THE GIVEN ROWS OF THIS SEAT. 5 by the template 'for every input the law returns true; each argument reads behind the call as it read before'; 0 by the template 'total and deterministic' (their statements: YtmkdbmeaiehnbaaTotals.lean).
  GIVEN WITH THE SEED: the statements are not yours to turn. If you find one false, say at which input.
  Laid BY PROGRAM, IN A SANDBOX (cutbox-rows.mjs): the forced cells as the released guide's own fill.sh prints them over the translation 620257f916d54a9c… (all of the seat's roots in one cut). By AI agents, Wed Nov 11 2026. No macro, syntax, notation, axiom, sorry.
-/
import Derived.Test.YtmkdbmeaiehnbaaChecked
import GoSem.Claim
import GoSem.ClaimJoined
import GoSem.ClaimMapViews
import Derived.JoinedTies
import Derived.KernelRfl
namespace Go.Proofs.Ytmkdbmeaiehnbaa
/- THE CELL 'sum', in the pinned program and in every row, IS THE sha256 OF THE DUMP (.gsa) THAT YtmkdbmeaiehnbaaProg.lean LOADS. Nothing in Lean hashes anything: it is a label: what it is worth is what the hold of that sum in a sandbox is worth. -/
noncomputable def Try.pinned : Pinned := { name := "ytmkdbmeaiehnbaa", sum := "620257f916d54a9cc5eba77f878b1607121b6d380d41cb0c5c3a6901d13275dc", checked := Try.checked }
namespace Rows
def none {H : Type} : Left H := { results := [], args := [] }

/-- 'lorrylaw08.WindowChecks': WHATEVER THE INPUT: true; the input reads as it did. -/
def windowChecksSpec : ChangeSpec := { name := "windowChecks", fn := fun _ => fun
  | [d] => { results := [.lit (.bool true)], args := [d] }
  | _ => none }
def windowChecksRow : OpenClaim := { program := "ytmkdbmeaiehnbaa", sum := "620257f916d54a9cc5eba77f878b1607121b6d380d41cb0c5c3a6901d13275dc", func := "lorry/lorrylaw08.WindowChecks", spec := "windowChecks", apart := false }
def WindowChecksSaid : Prop := windowChecksRow.holds Try.pinned (OpenSpec.ofChange windowChecksSpec)

/-- ITS FALSE NEIGHBOUR: 'it returns false'. Refute it at one input. -/
def windowChecksWrong : ChangeSpec := { name := "windowChecks", fn := fun _ => fun
  | [d] => { results := [.lit (.bool false)], args := [d] }
  | _ => none }
def WindowChecksWrongFalsely : Prop := windowChecksRow.holds Try.pinned (OpenSpec.ofChange windowChecksWrong)

/-- 'lorrylaw08.WindowServes': WHATEVER THE INPUT: true; the input reads as it did. -/
def windowServesSpec : ChangeSpec := { name := "windowServes", fn := fun _ => fun
  | [d1, d2, d3] => { results := [.lit (.bool true)], args := [d1, d2, d3] }
  | _ => none }
def windowServesRow : OpenClaim := { program := "ytmkdbmeaiehnbaa", sum := "620257f916d54a9cc5eba77f878b1607121b6d380d41cb0c5c3a6901d13275dc", func := "lorry/lorrylaw08.WindowServes", spec := "windowServes", apart := false }
def WindowServesSaid : Prop := windowServesRow.holds Try.pinned (OpenSpec.ofChange windowServesSpec)

/-- ITS FALSE NEIGHBOUR: 'it returns false'. Refute it at one input. -/
def windowServesWrong : ChangeSpec := { name := "windowServes", fn := fun _ => fun
  | [d1, d2, d3] => { results := [.lit (.bool false)], args := [d1, d2, d3] }
  | _ => none }
def WindowServesWrongFalsely : Prop := windowServesRow.holds Try.pinned (OpenSpec.ofChange windowServesWrong)

/-- 'lorrylaw08.WindowLatest': WHATEVER THE INPUT: true; the input reads as it did. -/
def windowLatestSpec : ChangeSpec := { name := "windowLatest", fn := fun _ => fun
  | [d1, d2] => { results := [.lit (.bool true)], args := [d1, d2] }
  | _ => none }
def windowLatestRow : OpenClaim := { program := "ytmkdbmeaiehnbaa", sum := "620257f916d54a9cc5eba77f878b1607121b6d380d41cb0c5c3a6901d13275dc", func := "lorry/lorrylaw08.WindowLatest", spec := "windowLatest", apart := false }
def WindowLatestSaid : Prop := windowLatestRow.holds Try.pinned (OpenSpec.ofChange windowLatestSpec)

/-- ITS FALSE NEIGHBOUR: 'it returns false'. Refute it at one input. -/
def windowLatestWrong : ChangeSpec := { name := "windowLatest", fn := fun _ => fun
  | [d1, d2] => { results := [.lit (.bool false)], args := [d1, d2] }
  | _ => none }
def WindowLatestWrongFalsely : Prop := windowLatestRow.holds Try.pinned (OpenSpec.ofChange windowLatestWrong)

/-- 'lorrylaw08.WindowMeets': WHATEVER THE INPUT: true; the input reads as it did. -/
def windowMeetsSpec : ChangeSpec := { name := "windowMeets", fn := fun _ => fun
  | [d1, d2, d3] => { results := [.lit (.bool true)], args := [d1, d2, d3] }
  | _ => none }
def windowMeetsRow : OpenClaim := { program := "ytmkdbmeaiehnbaa", sum := "620257f916d54a9cc5eba77f878b1607121b6d380d41cb0c5c3a6901d13275dc", func := "lorry/lorrylaw08.WindowMeets", spec := "windowMeets", apart := false }
def WindowMeetsSaid : Prop := windowMeetsRow.holds Try.pinned (OpenSpec.ofChange windowMeetsSpec)

/-- ITS FALSE NEIGHBOUR: 'it returns false'. Refute it at one input. -/
def windowMeetsWrong : ChangeSpec := { name := "windowMeets", fn := fun _ => fun
  | [d1, d2, d3] => { results := [.lit (.bool false)], args := [d1, d2, d3] }
  | _ => none }
def WindowMeetsWrongFalsely : Prop := windowMeetsRow.holds Try.pinned (OpenSpec.ofChange windowMeetsWrong)

/-- 'lorrylaw08.WindowShifts': WHATEVER THE INPUT: true; the input reads as it did. -/
def windowShiftsSpec : ChangeSpec := { name := "windowShifts", fn := fun _ => fun
  | [d1, d2] => { results := [.lit (.bool true)], args := [d1, d2] }
  | _ => none }
def windowShiftsRow : OpenClaim := { program := "ytmkdbmeaiehnbaa", sum := "620257f916d54a9cc5eba77f878b1607121b6d380d41cb0c5c3a6901d13275dc", func := "lorry/lorrylaw08.WindowShifts", spec := "windowShifts", apart := false }
def WindowShiftsSaid : Prop := windowShiftsRow.holds Try.pinned (OpenSpec.ofChange windowShiftsSpec)

/-- ITS FALSE NEIGHBOUR: 'it returns false'. Refute it at one input. -/
def windowShiftsWrong : ChangeSpec := { name := "windowShifts", fn := fun _ => fun
  | [d1, d2] => { results := [.lit (.bool false)], args := [d1, d2] }
  | _ => none }
def WindowShiftsWrongFalsely : Prop := windowShiftsRow.holds Try.pinned (OpenSpec.ofChange windowShiftsWrong)

/- THE SECOND FORM. 'bulk': how many values and letters a reading holds, each counted each time it is reached (what is shared counts as often as it is met; a slice's spare places count too). A statement '..UptoSaid' is the law's where the arguments, and the package variables that the reading takes, are together of bulk at most 1048576: NARROWER than '..Said'. Prove '..Said' where nothing that the law and all that it calls make is longer than what came in: it says more and counts as full. Else prove '..UptoSaid'. A law counts once. -/
mutual
def uptoBulk {H : Type} : DataW H → Nat
  | .lit (.string bytes) => bytes.length + 1
  | .lit _ => 1
  | .nil => 1
  | .ptr d => uptoBulk d + 1
  | .slice elems spare => uptoBulkAll elems + uptoBulkAll spare + 1
  | .agg parts => uptoBulkAll parts + 1
  | .iface _ d => uptoBulk d + 1
  | .map entries => uptoBulkEntries entries + 1
  | .held _ => 1
def uptoBulkAll {H : Type} : List (DataW H) → Nat
  | [] => 0
  | d :: r => uptoBulk d + uptoBulkAll r
def uptoBulkEntries {H : Type} : List (Lit × DataW H) → Nat
  | [] => 0
  | x :: r => uptoBulkEntry x + uptoBulkEntries r
def uptoBulkEntry {H : Type} : Lit × DataW H → Nat
  | (.string bytes, d) => bytes.length + uptoBulk d + 1
  | (_, d) => uptoBulk d + 1
 end
def uptoSmall : (H : Type) → List (DataW H) → Bool := fun _ ds => decide (uptoBulkAll ds ≤ 1048576)
def OpenSpec.upto (s : _root_.Go.ChangeSpec) : _root_.Go.OpenSpec := { _root_.Go.OpenSpec.ofChange s with cond := some uptoSmall }

/-- 'lorrylaw08.WindowChecks', WHERE WHAT IT READS IS OF BULK AT MOST 1048576: true; the input reads as it did. -/
def windowChecksUptoRow : OpenClaim := { program := "ytmkdbmeaiehnbaa", sum := "620257f916d54a9cc5eba77f878b1607121b6d380d41cb0c5c3a6901d13275dc", func := "lorry/lorrylaw08.WindowChecks", spec := "windowChecks", apart := false, narrowed := true }
def WindowChecksUptoSaid : Prop := windowChecksUptoRow.holds Try.pinned (OpenSpec.upto windowChecksSpec)

/-- 'lorrylaw08.WindowServes', WHERE WHAT IT READS IS OF BULK AT MOST 1048576: true; the input reads as it did. -/
def windowServesUptoRow : OpenClaim := { program := "ytmkdbmeaiehnbaa", sum := "620257f916d54a9cc5eba77f878b1607121b6d380d41cb0c5c3a6901d13275dc", func := "lorry/lorrylaw08.WindowServes", spec := "windowServes", apart := false, narrowed := true }
def WindowServesUptoSaid : Prop := windowServesUptoRow.holds Try.pinned (OpenSpec.upto windowServesSpec)

/-- 'lorrylaw08.WindowLatest', WHERE WHAT IT READS IS OF BULK AT MOST 1048576: true; the input reads as it did. -/
def windowLatestUptoRow : OpenClaim := { program := "ytmkdbmeaiehnbaa", sum := "620257f916d54a9cc5eba77f878b1607121b6d380d41cb0c5c3a6901d13275dc", func := "lorry/lorrylaw08.WindowLatest", spec := "windowLatest", apart := false, narrowed := true }
def WindowLatestUptoSaid : Prop := windowLatestUptoRow.holds Try.pinned (OpenSpec.upto windowLatestSpec)

/-- 'lorrylaw08.WindowMeets', WHERE WHAT IT READS IS OF BULK AT MOST 1048576: true; the input reads as it did. -/
def windowMeetsUptoRow : OpenClaim := { program := "ytmkdbmeaiehnbaa", sum := "620257f916d54a9cc5eba77f878b1607121b6d380d41cb0c5c3a6901d13275dc", func := "lorry/lorrylaw08.WindowMeets", spec := "windowMeets", apart := false, narrowed := true }
def WindowMeetsUptoSaid : Prop := windowMeetsUptoRow.holds Try.pinned (OpenSpec.upto windowMeetsSpec)

/-- 'lorrylaw08.WindowShifts', WHERE WHAT IT READS IS OF BULK AT MOST 1048576: true; the input reads as it did. -/
def windowShiftsUptoRow : OpenClaim := { program := "ytmkdbmeaiehnbaa", sum := "620257f916d54a9cc5eba77f878b1607121b6d380d41cb0c5c3a6901d13275dc", func := "lorry/lorrylaw08.WindowShifts", spec := "windowShifts", apart := false, narrowed := true }
def WindowShiftsUptoSaid : Prop := windowShiftsUptoRow.holds Try.pinned (OpenSpec.upto windowShiftsSpec)

end Rows
end Go.Proofs.Ytmkdbmeaiehnbaa
