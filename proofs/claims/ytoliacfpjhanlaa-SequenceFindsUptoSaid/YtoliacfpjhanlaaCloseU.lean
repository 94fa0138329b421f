/-
  DERIVED. CloseU: a part of the base of layer 13 (made by pack.py).
-/
import Derived.Lib.LaidTab
import Derived.Deep.DeepHandedRow
import Derived.Stop.LaidErr
import Derived.SevenTiedAt
import Derived.Lay
import Derived.WalkKit
import Derived.MakeChecks
import Derived.Test.YtoliacfpjhanlaaRows
import Derived.ProofKit
import Derived.LaidMore
import Derived.OpenShut
import Derived.Below
import Derived.Lib.SmallJoins
import Derived.Deep.RegionHeld3
import Derived.Laws.StructEq
import Derived.ChangeKeysEq
import Derived.Deep.DeepCutAuto
import Derived.Deep.Cut
import Derived.Deep.CutRange
import Derived.Laws.AppendOwnNone
import Derived.Test.YtoliacfpjhanlaaShelf
import Derived.Maps.AppendAt
import Derived.WalkSpells
import Derived.WalkLawsBesides
import Derived.WalkMore
import Derived.OwnWalk
import Derived.IntWalk
import Derived.Laws.OwnMore
import Derived.Laws.AppendOwn
import Derived.Deep.AppendLies
import Derived.Deep.Draws
import Derived.Deep.QuietTactic
import Derived.Deep.RegionLaw
import Derived.Deep.RegionWith
import Derived.BigQuiet
import Derived.Lib.Hide
import Derived.WalkSmall
import Derived.Deep.Onto
import Derived.Deep.LoopGhost
import Derived.Handy
import Derived.Lib.ItoaNum
import Derived.ChangeSlices
import Derived.SliceStrings
import Derived.Carry
import Derived.Deep.SlicePairs
import Derived.Deep.Slices
import Derived.Deep.Fields
import Derived.RangeFuncBox
import Derived.RangeFuncNested
import Derived.RangeFuncBound
import Derived.RangeFuncCalls
import Derived.RangeFuncLeaves
import Derived.Shelf.Abstract
import Derived.Shelf.RegionOpen
import Derived.OwnWalkIn
import Derived.TacticsInMore
import Derived.LoopNIn
import Derived.LoopIn
import Derived.Maps.OwnSet
import Derived.DeepKeys4
import Derived.Lib.SliceRun
import Derived.BigRegion
import Derived.Laws.BitsLemmas
import Derived.Laws.Bits64b
import Derived.Laws.Bits128
import Derived.WideKeyPair
import Derived.Deep.CutBlock
import Derived.Lib.AppendZeros
import Derived.Lib.Walk
import Derived.Laws.IdiomCopy
import Derived.Deep.OwnRows
import Derived.Laws.Rows
import Derived.Laws.Concat
import Derived.Deep.MidRow
/-! The witness's world; the last step of a row where the call leaves what was there as it was; no table is laid. -/
namespace Go.Proofs.Ytoliacfpjhanlaa
open Go.ChangeShapes Go.WideShapes Go.ChangeAt Go.RowKit Go.WideMaps Go.WideElems
open Go.ChangeMaps (open_string shut_string)

/-- the laid list of every row: none -/
def laid0 : List (String × DataW Unit) := []
theorem door_met (os : Os) (args : Array Value) : laidMetH Try.prog laid0 ((World.laidAll Try.prog os laid0).forCall (fun _ _ => 0) ⟨#[], args, []⟩).memory := by
  rw [MakeChecks.laidMetH_plain _ _ _ (by kernel_rfl)]
  exact laidMet_laidAll _ (by kernel_rfl) (by kernel_rfl)
theorem laidOut16 : laidOutB Try.prog = true := by kernel_rfl
end Go.Proofs.Ytoliacfpjhanlaa


