/-
  No cell of these rows narrows 'for every input' (looked for: loops, veiled, ifaces, maps, wideKeys, modest, calm, conditions, laid).
  DERIVED. THE GIVEN ROWS OF THIS SEAT. 6 by the template 'for every input the law returns true; each argument reads behind the call as it read before'; 0 by the template 'total and deterministic' (their statements: YtoliacfpjhanlaaTotals.lean).
  GIVEN WITH THE SEED: the statements are not yours to turn. If you find one false, say at which input.
  Laid BY PROGRAM, IN A SANDBOX (cutbox-rows.mjs): the forced cells as the released guide's own fill.sh prints them over the translation e119c65b380cf7a9… (all of the seat's roots in one cut). By AI agents, Wed Nov 11 2026. No macro, syntax, notation, axiom, sorry.
-/
import Derived.Test.YtoliacfpjhanlaaChecked
import GoSem.Claim
import GoSem.ClaimJoined
import GoSem.ClaimMapViews
import Derived.JoinedTies
import Derived.KernelRfl
namespace Go.Proofs.Ytoliacfpjhanlaa
/- THE CELL 'sum', in the pinned program and in every row, IS THE sha256 OF THE DUMP (.gsa) THAT YtoliacfpjhanlaaProg.lean LOADS. Nothing in Lean hashes anything: it is a label: what it is worth is what the hold of that sum in a sandbox is worth. -/
noncomputable def Try.pinned : Pinned := { name := "ytoliacfpjhanlaa", sum := "e119c65b380cf7a9c712eb7fae2b3bfcdbc09a33e201f8f0cbf64da5bddd5ffd", checked := Try.checked }
namespace Rows
def none {H : Type} : Left H := { results := [], args := [] }

/-- 'lorrylaw16.SequenceChecks': WHATEVER THE INPUT: true; the input reads as it did. -/
def sequenceChecksSpec : ChangeSpec := { name := "sequenceChecks", fn := fun _ => fun
  | [d1, d2] => { results := [.lit (.bool true)], args := [d1, d2] }
  | _ => none }
def sequenceChecksRow : OpenClaim := { program := "ytoliacfpjhanlaa", sum := "e119c65b380cf7a9c712eb7fae2b3bfcdbc09a33e201f8f0cbf64da5bddd5ffd", func := "lorry/lorrylaw16.SequenceChecks", spec := "sequenceChecks", unfollowed := true, recurses := true, apart := false }
def SequenceChecksSaid : Prop := sequenceChecksRow.holds Try.pinned (OpenSpec.ofChange sequenceChecksSpec)

/-- ITS FALSE NEIGHBOUR: 'it returns false'. Refute it at one input. -/
def sequenceChecksWrong : ChangeSpec := { name := "sequenceChecks", fn := fun _ => fun
  | [d1, d2] => { results := [.lit (.bool false)], args := [d1, d2] }
  | _ => none }
def SequenceChecksWrongFalsely : Prop := sequenceChecksRow.holds Try.pinned (OpenSpec.ofChange sequenceChecksWrong)

/-- 'lorrylaw16.SequenceAll': WHATEVER THE INPUT: true; the input reads as it did. -/
def sequenceAllSpec : ChangeSpec := { name := "sequenceAll", fn := fun _ => fun
  | [d1, d2] => { results := [.lit (.bool true)], args := [d1, d2] }
  | _ => none }
def sequenceAllRow : OpenClaim := { program := "ytoliacfpjhanlaa", sum := "e119c65b380cf7a9c712eb7fae2b3bfcdbc09a33e201f8f0cbf64da5bddd5ffd", func := "lorry/lorrylaw16.SequenceAll", spec := "sequenceAll", unfollowed := true, recurses := true, apart := false }
def SequenceAllSaid : Prop := sequenceAllRow.holds Try.pinned (OpenSpec.ofChange sequenceAllSpec)

/-- ITS FALSE NEIGHBOUR: 'it returns false'. Refute it at one input. -/
def sequenceAllWrong : ChangeSpec := { name := "sequenceAll", fn := fun _ => fun
  | [d1, d2] => { results := [.lit (.bool false)], args := [d1, d2] }
  | _ => none }
def SequenceAllWrongFalsely : Prop := sequenceAllRow.holds Try.pinned (OpenSpec.ofChange sequenceAllWrong)

/-- 'lorrylaw16.SequenceNext': WHATEVER THE INPUT: true; the input reads as it did. -/
def sequenceNextSpec : ChangeSpec := { name := "sequenceNext", fn := fun _ => fun
  | [d1, d2, d3] => { results := [.lit (.bool true)], args := [d1, d2, d3] }
  | _ => none }
def sequenceNextRow : OpenClaim := { program := "ytoliacfpjhanlaa", sum := "e119c65b380cf7a9c712eb7fae2b3bfcdbc09a33e201f8f0cbf64da5bddd5ffd", func := "lorry/lorrylaw16.SequenceNext", spec := "sequenceNext", unfollowed := true, recurses := true, apart := false }
def SequenceNextSaid : Prop := sequenceNextRow.holds Try.pinned (OpenSpec.ofChange sequenceNextSpec)

/-- ITS FALSE NEIGHBOUR: 'it returns false'. Refute it at one input. -/
def sequenceNextWrong : ChangeSpec := { name := "sequenceNext", fn := fun _ => fun
  | [d1, d2, d3] => { results := [.lit (.bool false)], args := [d1, d2, d3] }
  | _ => none }
def SequenceNextWrongFalsely : Prop := sequenceNextRow.holds Try.pinned (OpenSpec.ofChange sequenceNextWrong)

/-- 'lorrylaw16.SequenceFinds': WHATEVER THE INPUT: true; the input reads as it did. -/
def sequenceFindsSpec : ChangeSpec := { name := "sequenceFinds", fn := fun _ => fun
  | [d1, d2] => { results := [.lit (.bool true)], args := [d1, d2] }
  | _ => none }
def sequenceFindsRow : OpenClaim := { program := "ytoliacfpjhanlaa", sum := "e119c65b380cf7a9c712eb7fae2b3bfcdbc09a33e201f8f0cbf64da5bddd5ffd", func := "lorry/lorrylaw16.SequenceFinds", spec := "sequenceFinds", unfollowed := true, recurses := true, apart := false }
def SequenceFindsSaid : Prop := sequenceFindsRow.holds Try.pinned (OpenSpec.ofChange sequenceFindsSpec)

/-- ITS FALSE NEIGHBOUR: 'it returns false'. Refute it at one input. -/
def sequenceFindsWrong : ChangeSpec := { name := "sequenceFinds", fn := fun _ => fun
  | [d1, d2] => { results := [.lit (.bool false)], args := [d1, d2] }
  | _ => none }
def SequenceFindsWrongFalsely : Prop := sequenceFindsRow.holds Try.pinned (OpenSpec.ofChange sequenceFindsWrong)

/-- 'lorrylaw16.SequenceGrows': WHATEVER THE INPUT: true; the input reads as it did. -/
def sequenceGrowsSpec : ChangeSpec := { name := "sequenceGrows", fn := fun _ => fun
  | [d1, d2] => { results := [.lit (.bool true)], args := [d1, d2] }
  | _ => none }
def sequenceGrowsRow : OpenClaim := { program := "ytoliacfpjhanlaa", sum := "e119c65b380cf7a9c712eb7fae2b3bfcdbc09a33e201f8f0cbf64da5bddd5ffd", func := "lorry/lorrylaw16.SequenceGrows", spec := "sequenceGrows", unfollowed := true, recurses := true, apart := false }
def SequenceGrowsSaid : Prop := sequenceGrowsRow.holds Try.pinned (OpenSpec.ofChange sequenceGrowsSpec)

/-- ITS FALSE NEIGHBOUR: 'it returns false'. Refute it at one input. -/
def sequenceGrowsWrong : ChangeSpec := { name := "sequenceGrows", fn := fun _ => fun
  | [d1, d2] => { results := [.lit (.bool false)], args := [d1, d2] }
  | _ => none }
def SequenceGrowsWrongFalsely : Prop := sequenceGrowsRow.holds Try.pinned (OpenSpec.ofChange sequenceGrowsWrong)

/-- 'lorrylaw16.SequenceOrders': WHATEVER THE INPUT: true; the input reads as it did. -/
def sequenceOrdersSpec : ChangeSpec := { name := "sequenceOrders", fn := fun _ => fun
  | [d1, d2, d3] => { results := [.lit (.bool true)], args := [d1, d2, d3] }
  | _ => none }
def sequenceOrdersRow : OpenClaim := { program := "ytoliacfpjhanlaa", sum := "e119c65b380cf7a9c712eb7fae2b3bfcdbc09a33e201f8f0cbf64da5bddd5ffd", func := "lorry/lorrylaw16.SequenceOrders", spec := "sequenceOrders", unfollowed := true, recurses := true, apart := false }
def SequenceOrdersSaid : Prop := sequenceOrdersRow.holds Try.pinned (OpenSpec.ofChange sequenceOrdersSpec)

/-- ITS FALSE NEIGHBOUR: 'it returns false'. Refute it at one input. -/
def sequenceOrdersWrong : ChangeSpec := { name := "sequenceOrders", fn := fun _ => fun
  | [d1, d2, d3] => { results := [.lit (.bool false)], args := [d1, d2, d3] }
  | _ => none }
def SequenceOrdersWrongFalsely : Prop := sequenceOrdersRow.holds Try.pinned (OpenSpec.ofChange sequenceOrdersWrong)

/- THE SECOND FORM. 'bulk': how many values and letters a reading holds, each counted each time it is reached (what is shared counts as often as it is met; a slice's spare places count too). A statement '..UptoSaid' is the law's where the arguments, and the package variables that the reading takes, are together of bulk at most 1048576: NARROWER than '..Said'. Prove '..Said' where nothing that the law and all that it calls make is longer than what came in: it says more and counts as full. Else prove '..UptoSaid'. A law counts once. -/
mutual
def uptoBulk {H : Type} : DataW H → Nat
  | .lit (.string bytes) => bytes.length + 1
  | .lit _ => 1
  | .nil => 1
  | .ptr d => uptoBulk d + 1
  | .slice elems spare => uptoBulkAll elems + uptoBulkAll spare + 1
  | .agg parts => uptoBulkAll parts + 1
  | .iface _ d => uptoBulk d + 1
  | .map entries => uptoBulkEntries entries + 1
  | .held _ => 1
def uptoBulkAll {H : Type} : List (DataW H) → Nat
  | [] => 0
  | d :: r => uptoBulk d + uptoBulkAll r
def uptoBulkEntries {H : Type} : List (Lit × DataW H) → Nat
  | [] => 0
  | x :: r => uptoBulkEntry x + uptoBulkEntries r
def uptoBulkEntry {H : Type} : Lit × DataW H → Nat
  | (.string bytes, d) => bytes.length + uptoBulk d + 1
  | (_, d) => uptoBulk d + 1
 end
def uptoSmall : (H : Type) → List (DataW H) → Bool := fun _ ds => decide (uptoBulkAll ds ≤ 1048576)
def OpenSpec.upto (s : _root_.Go.ChangeSpec) : _root_.Go.OpenSpec := { _root_.Go.OpenSpec.ofChange s with cond := some uptoSmall }

/-- 'lorrylaw16.SequenceChecks', WHERE WHAT IT READS IS OF BULK AT MOST 1048576: true; the input reads as it did. -/
def sequenceChecksUptoRow : OpenClaim := { program := "ytoliacfpjhanlaa", sum := "e119c65b380cf7a9c712eb7fae2b3bfcdbc09a33e201f8f0cbf64da5bddd5ffd", func := "lorry/lorrylaw16.SequenceChecks", spec := "sequenceChecks", unfollowed := true, recurses := true, apart := false, narrowed := true }
def SequenceChecksUptoSaid : Prop := sequenceChecksUptoRow.holds Try.pinned (OpenSpec.upto sequenceChecksSpec)

/-- 'lorrylaw16.SequenceAll', WHERE WHAT IT READS IS OF BULK AT MOST 1048576: true; the input reads as it did. -/
def sequenceAllUptoRow : OpenClaim := { program := "ytoliacfpjhanlaa", sum := "e119c65b380cf7a9c712eb7fae2b3bfcdbc09a33e201f8f0cbf64da5bddd5ffd", func := "lorry/lorrylaw16.SequenceAll", spec := "sequenceAll", unfollowed := true, recurses := true, apart := false, narrowed := true }
def SequenceAllUptoSaid : Prop := sequenceAllUptoRow.holds Try.pinned (OpenSpec.upto sequenceAllSpec)

/-- 'lorrylaw16.SequenceNext', WHERE WHAT IT READS IS OF BULK AT MOST 1048576: true; the input reads as it did. -/
def sequenceNextUptoRow : OpenClaim := { program := "ytoliacfpjhanlaa", sum := "e119c65b380cf7a9c712eb7fae2b3bfcdbc09a33e201f8f0cbf64da5bddd5ffd", func := "lorry/lorrylaw16.SequenceNext", spec := "sequenceNext", unfollowed := true, recurses := true, apart := false, narrowed := true }
def SequenceNextUptoSaid : Prop := sequenceNextUptoRow.holds Try.pinned (OpenSpec.upto sequenceNextSpec)

/-- 'lorrylaw16.SequenceFinds', WHERE WHAT IT READS IS OF BULK AT MOST 1048576: true; the input reads as it did. -/
def sequenceFindsUptoRow : OpenClaim := { program := "ytoliacfpjhanlaa", sum := "e119c65b380cf7a9c712eb7fae2b3bfcdbc09a33e201f8f0cbf64da5bddd5ffd", func := "lorry/lorrylaw16.SequenceFinds", spec := "sequenceFinds", unfollowed := true, recurses := true, apart := false, narrowed := true }
def SequenceFindsUptoSaid : Prop := sequenceFindsUptoRow.holds Try.pinned (OpenSpec.upto sequenceFindsSpec)

/-- 'lorrylaw16.SequenceGrows', WHERE WHAT IT READS IS OF BULK AT MOST 1048576: true; the input reads as it did. -/
def sequenceGrowsUptoRow : OpenClaim := { program := "ytoliacfpjhanlaa", sum := "e119c65b380cf7a9c712eb7fae2b3bfcdbc09a33e201f8f0cbf64da5bddd5ffd", func := "lorry/lorrylaw16.SequenceGrows", spec := "sequenceGrows", unfollowed := true, recurses := true, apart := false, narrowed := true }
def SequenceGrowsUptoSaid : Prop := sequenceGrowsUptoRow.holds Try.pinned (OpenSpec.upto sequenceGrowsSpec)

/-- 'lorrylaw16.SequenceOrders', WHERE WHAT IT READS IS OF BULK AT MOST 1048576: true; the input reads as it did. -/
def sequenceOrdersUptoRow : OpenClaim := { program := "ytoliacfpjhanlaa", sum := "e119c65b380cf7a9c712eb7fae2b3bfcdbc09a33e201f8f0cbf64da5bddd5ffd", func := "lorry/lorrylaw16.SequenceOrders", spec := "sequenceOrders", unfollowed := true, recurses := true, apart := false, narrowed := true }
def SequenceOrdersUptoSaid : Prop := sequenceOrdersUptoRow.holds Try.pinned (OpenSpec.upto sequenceOrdersSpec)

end Rows
end Go.Proofs.Ytoliacfpjhanlaa
