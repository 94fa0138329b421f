/-
  No cell of these rows narrows 'for every input' (looked for: loops, veiled, ifaces, maps, wideKeys, modest, calm, conditions, laid).
  DERIVED. THE GIVEN ROWS OF THIS SEAT. 6 by the template 'for every input the law returns true; each argument reads behind the call as it read before'; 0 by the template 'total and deterministic' (their statements: YtcnagcdgpgijaaaTotals.lean).
  GIVEN WITH THE SEED: the statements are not yours to turn. If you find one false, say at which input.
  Laid BY PROGRAM, IN A SANDBOX (cutbox-rows.mjs): the forced cells as the released guide's own fill.sh prints them over the translation 1719b7a3c7c00a78… (all of the seat's roots in one cut). By AI agents, Wed Nov 11 2026. No macro, syntax, notation, axiom, sorry.
-/
import Derived.Test.YtcnagcdgpgijaaaChecked
import GoSem.Claim
import GoSem.ClaimJoined
import GoSem.ClaimMapViews
import Derived.JoinedTies
import Derived.KernelRfl
namespace Go.Proofs.Ytcnagcdgpgijaaa
/- THE CELL 'sum', in the pinned program and in every row, IS THE sha256 OF THE DUMP (.gsa) THAT YtcnagcdgpgijaaaProg.lean LOADS. Nothing in Lean hashes anything: it is a label: what it is worth is what the hold of that sum in a sandbox is worth. -/
noncomputable def Try.pinned : Pinned := { name := "ytcnagcdgpgijaaa", sum := "1719b7a3c7c00a78e464a4bbf2e6e01ad620c8b8a72de24834bc78e4d702b66f", checked := Try.checked }
namespace Rows
def none {H : Type} : Left H := { results := [], args := [] }

/-- 'lorrylaw06.LoadsFit': WHATEVER THE INPUT: true; the input reads as it did. -/
def loadsFitSpec : ChangeSpec := { name := "loadsFit", fn := fun _ => fun
  | [d1, d2, d3] => { results := [.lit (.bool true)], args := [d1, d2, d3] }
  | _ => none }
def loadsFitRow : OpenClaim := { program := "ytcnagcdgpgijaaa", sum := "1719b7a3c7c00a78e464a4bbf2e6e01ad620c8b8a72de24834bc78e4d702b66f", func := "lorry/lorrylaw06.LoadsFit", spec := "loadsFit", unfollowed := true, recurses := true, apart := false }
def LoadsFitSaid : Prop := loadsFitRow.holds Try.pinned (OpenSpec.ofChange loadsFitSpec)

/-- ITS FALSE NEIGHBOUR: 'it returns false'. Refute it at one input. -/
def loadsFitWrong : ChangeSpec := { name := "loadsFit", fn := fun _ => fun
  | [d1, d2, d3] => { results := [.lit (.bool false)], args := [d1, d2, d3] }
  | _ => none }
def LoadsFitWrongFalsely : Prop := loadsFitRow.holds Try.pinned (OpenSpec.ofChange loadsFitWrong)

/-- 'lorrylaw06.LoadsAdd': WHATEVER THE INPUT: true; the input reads as it did. -/
def loadsAddSpec : ChangeSpec := { name := "loadsAdd", fn := fun _ => fun
  | [d1, d2, d3, d4] => { results := [.lit (.bool true)], args := [d1, d2, d3, d4] }
  | _ => none }
def loadsAddRow : OpenClaim := { program := "ytcnagcdgpgijaaa", sum := "1719b7a3c7c00a78e464a4bbf2e6e01ad620c8b8a72de24834bc78e4d702b66f", func := "lorry/lorrylaw06.LoadsAdd", spec := "loadsAdd", unfollowed := true, recurses := true, apart := false }
def LoadsAddSaid : Prop := loadsAddRow.holds Try.pinned (OpenSpec.ofChange loadsAddSpec)

/-- ITS FALSE NEIGHBOUR: 'it returns false'. Refute it at one input. -/
def loadsAddWrong : ChangeSpec := { name := "loadsAdd", fn := fun _ => fun
  | [d1, d2, d3, d4] => { results := [.lit (.bool false)], args := [d1, d2, d3, d4] }
  | _ => none }
def LoadsAddWrongFalsely : Prop := loadsAddRow.holds Try.pinned (OpenSpec.ofChange loadsAddWrong)

/-- 'lorrylaw06.LoadsTrips': WHATEVER THE INPUT: true; the input reads as it did. -/
def loadsTripsSpec : ChangeSpec := { name := "loadsTrips", fn := fun _ => fun
  | [d1, d2] => { results := [.lit (.bool true)], args := [d1, d2] }
  | _ => none }
def loadsTripsRow : OpenClaim := { program := "ytcnagcdgpgijaaa", sum := "1719b7a3c7c00a78e464a4bbf2e6e01ad620c8b8a72de24834bc78e4d702b66f", func := "lorry/lorrylaw06.LoadsTrips", spec := "loadsTrips", unfollowed := true, recurses := true, apart := false }
def LoadsTripsSaid : Prop := loadsTripsRow.holds Try.pinned (OpenSpec.ofChange loadsTripsSpec)

/-- ITS FALSE NEIGHBOUR: 'it returns false'. Refute it at one input. -/
def loadsTripsWrong : ChangeSpec := { name := "loadsTrips", fn := fun _ => fun
  | [d1, d2] => { results := [.lit (.bool false)], args := [d1, d2] }
  | _ => none }
def LoadsTripsWrongFalsely : Prop := loadsTripsRow.holds Try.pinned (OpenSpec.ofChange loadsTripsWrong)

/-- 'lorrylaw06.LoadsGroup': WHATEVER THE INPUT: true; the input reads as it did. -/
def loadsGroupSpec : ChangeSpec := { name := "loadsGroup", fn := fun _ => fun
  | [d1, d2, d3] => { results := [.lit (.bool true)], args := [d1, d2, d3] }
  | _ => none }
def loadsGroupRow : OpenClaim := { program := "ytcnagcdgpgijaaa", sum := "1719b7a3c7c00a78e464a4bbf2e6e01ad620c8b8a72de24834bc78e4d702b66f", func := "lorry/lorrylaw06.LoadsGroup", spec := "loadsGroup", unfollowed := true, recurses := true, apart := false }
def LoadsGroupSaid : Prop := loadsGroupRow.holds Try.pinned (OpenSpec.ofChange loadsGroupSpec)

/-- ITS FALSE NEIGHBOUR: 'it returns false'. Refute it at one input. -/
def loadsGroupWrong : ChangeSpec := { name := "loadsGroup", fn := fun _ => fun
  | [d1, d2, d3] => { results := [.lit (.bool false)], args := [d1, d2, d3] }
  | _ => none }
def LoadsGroupWrongFalsely : Prop := loadsGroupRow.holds Try.pinned (OpenSpec.ofChange loadsGroupWrong)

/-- 'lorrylaw06.LoadsBounds': WHATEVER THE INPUT: true; the input reads as it did. -/
def loadsBoundsSpec : ChangeSpec := { name := "loadsBounds", fn := fun _ => fun
  | [d1, d2] => { results := [.lit (.bool true)], args := [d1, d2] }
  | _ => none }
def loadsBoundsRow : OpenClaim := { program := "ytcnagcdgpgijaaa", sum := "1719b7a3c7c00a78e464a4bbf2e6e01ad620c8b8a72de24834bc78e4d702b66f", func := "lorry/lorrylaw06.LoadsBounds", spec := "loadsBounds", unfollowed := true, recurses := true, apart := false }
def LoadsBoundsSaid : Prop := loadsBoundsRow.holds Try.pinned (OpenSpec.ofChange loadsBoundsSpec)

/-- ITS FALSE NEIGHBOUR: 'it returns false'. Refute it at one input. -/
def loadsBoundsWrong : ChangeSpec := { name := "loadsBounds", fn := fun _ => fun
  | [d1, d2] => { results := [.lit (.bool false)], args := [d1, d2] }
  | _ => none }
def LoadsBoundsWrongFalsely : Prop := loadsBoundsRow.holds Try.pinned (OpenSpec.ofChange loadsBoundsWrong)

/-- 'lorrylaw06.LoadsLeast': WHATEVER THE INPUT: true; the input reads as it did. -/
def loadsLeastSpec : ChangeSpec := { name := "loadsLeast", fn := fun _ => fun
  | [d1, d2, d3] => { results := [.lit (.bool true)], args := [d1, d2, d3] }
  | _ => none }
def loadsLeastRow : OpenClaim := { program := "ytcnagcdgpgijaaa", sum := "1719b7a3c7c00a78e464a4bbf2e6e01ad620c8b8a72de24834bc78e4d702b66f", func := "lorry/lorrylaw06.LoadsLeast", spec := "loadsLeast", unfollowed := true, recurses := true, apart := false }
def LoadsLeastSaid : Prop := loadsLeastRow.holds Try.pinned (OpenSpec.ofChange loadsLeastSpec)

/-- ITS FALSE NEIGHBOUR: 'it returns false'. Refute it at one input. -/
def loadsLeastWrong : ChangeSpec := { name := "loadsLeast", fn := fun _ => fun
  | [d1, d2, d3] => { results := [.lit (.bool false)], args := [d1, d2, d3] }
  | _ => none }
def LoadsLeastWrongFalsely : Prop := loadsLeastRow.holds Try.pinned (OpenSpec.ofChange loadsLeastWrong)

/- THE SECOND FORM. 'bulk': how many values and letters a reading holds, each counted each time it is reached (what is shared counts as often as it is met; a slice's spare places count too). A statement '..UptoSaid' is the law's where the arguments, and the package variables that the reading takes, are together of bulk at most 1048576: NARROWER than '..Said'. Prove '..Said' where nothing that the law and all that it calls make is longer than what came in: it says more and counts as full. Else prove '..UptoSaid'. A law counts once. -/
mutual
def uptoBulk {H : Type} : DataW H → Nat
  | .lit (.string bytes) => bytes.length + 1
  | .lit _ => 1
  | .nil => 1
  | .ptr d => uptoBulk d + 1
  | .slice elems spare => uptoBulkAll elems + uptoBulkAll spare + 1
  | .agg parts => uptoBulkAll parts + 1
  | .iface _ d => uptoBulk d + 1
  | .map entries => uptoBulkEntries entries + 1
  | .held _ => 1
def uptoBulkAll {H : Type} : List (DataW H) → Nat
  | [] => 0
  | d :: r => uptoBulk d + uptoBulkAll r
def uptoBulkEntries {H : Type} : List (Lit × DataW H) → Nat
  | [] => 0
  | x :: r => uptoBulkEntry x + uptoBulkEntries r
def uptoBulkEntry {H : Type} : Lit × DataW H → Nat
  | (.string bytes, d) => bytes.length + uptoBulk d + 1
  | (_, d) => uptoBulk d + 1
 end
def uptoSmall : (H : Type) → List (DataW H) → Bool := fun _ ds => decide (uptoBulkAll ds ≤ 1048576)
def OpenSpec.upto (s : _root_.Go.ChangeSpec) : _root_.Go.OpenSpec := { _root_.Go.OpenSpec.ofChange s with cond := some uptoSmall }

/-- 'lorrylaw06.LoadsFit', WHERE WHAT IT READS IS OF BULK AT MOST 1048576: true; the input reads as it did. -/
def loadsFitUptoRow : OpenClaim := { program := "ytcnagcdgpgijaaa", sum := "1719b7a3c7c00a78e464a4bbf2e6e01ad620c8b8a72de24834bc78e4d702b66f", func := "lorry/lorrylaw06.LoadsFit", spec := "loadsFit", unfollowed := true, recurses := true, apart := false, narrowed := true }
def LoadsFitUptoSaid : Prop := loadsFitUptoRow.holds Try.pinned (OpenSpec.upto loadsFitSpec)

/-- 'lorrylaw06.LoadsAdd', WHERE WHAT IT READS IS OF BULK AT MOST 1048576: true; the input reads as it did. -/
def loadsAddUptoRow : OpenClaim := { program := "ytcnagcdgpgijaaa", sum := "1719b7a3c7c00a78e464a4bbf2e6e01ad620c8b8a72de24834bc78e4d702b66f", func := "lorry/lorrylaw06.LoadsAdd", spec := "loadsAdd", unfollowed := true, recurses := true, apart := false, narrowed := true }
def LoadsAddUptoSaid : Prop := loadsAddUptoRow.holds Try.pinned (OpenSpec.upto loadsAddSpec)

/-- 'lorrylaw06.LoadsTrips', WHERE WHAT IT READS IS OF BULK AT MOST 1048576: true; the input reads as it did. -/
def loadsTripsUptoRow : OpenClaim := { program := "ytcnagcdgpgijaaa", sum := "1719b7a3c7c00a78e464a4bbf2e6e01ad620c8b8a72de24834bc78e4d702b66f", func := "lorry/lorrylaw06.LoadsTrips", spec := "loadsTrips", unfollowed := true, recurses := true, apart := false, narrowed := true }
def LoadsTripsUptoSaid : Prop := loadsTripsUptoRow.holds Try.pinned (OpenSpec.upto loadsTripsSpec)

/-- 'lorrylaw06.LoadsGroup', WHERE WHAT IT READS IS OF BULK AT MOST 1048576: true; the input reads as it did. -/
def loadsGroupUptoRow : OpenClaim := { program := "ytcnagcdgpgijaaa", sum := "1719b7a3c7c00a78e464a4bbf2e6e01ad620c8b8a72de24834bc78e4d702b66f", func := "lorry/lorrylaw06.LoadsGroup", spec := "loadsGroup", unfollowed := true, recurses := true, apart := false, narrowed := true }
def LoadsGroupUptoSaid : Prop := loadsGroupUptoRow.holds Try.pinned (OpenSpec.upto loadsGroupSpec)

/-- 'lorrylaw06.LoadsBounds', WHERE WHAT IT READS IS OF BULK AT MOST 1048576: true; the input reads as it did. -/
def loadsBoundsUptoRow : OpenClaim := { program := "ytcnagcdgpgijaaa", sum := "1719b7a3c7c00a78e464a4bbf2e6e01ad620c8b8a72de24834bc78e4d702b66f", func := "lorry/lorrylaw06.LoadsBounds", spec := "loadsBounds", unfollowed := true, recurses := true, apart := false, narrowed := true }
def LoadsBoundsUptoSaid : Prop := loadsBoundsUptoRow.holds Try.pinned (OpenSpec.upto loadsBoundsSpec)

/-- 'lorrylaw06.LoadsLeast', WHERE WHAT IT READS IS OF BULK AT MOST 1048576: true; the input reads as it did. -/
def loadsLeastUptoRow : OpenClaim := { program := "ytcnagcdgpgijaaa", sum := "1719b7a3c7c00a78e464a4bbf2e6e01ad620c8b8a72de24834bc78e4d702b66f", func := "lorry/lorrylaw06.LoadsLeast", spec := "loadsLeast", unfollowed := true, recurses := true, apart := false, narrowed := true }
def LoadsLeastUptoSaid : Prop := loadsLeastUptoRow.holds Try.pinned (OpenSpec.upto loadsLeastSpec)

end Rows
end Go.Proofs.Ytcnagcdgpgijaaa
