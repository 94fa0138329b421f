/-
  DERIVED. Lb: a part of the base of layer 13 (made by pack.py).
-/
import Derived.Test.YtnapmildbodigaaDoorGA
import Derived.Laws.MakeOwn
/-! The stops of a course (by gen_lb.py). -/
namespace Go.Proofs.YtnapmildbodigaaDoor.T
open Go.RowKit
set_option maxRecDepth 8000
attribute [local irreducible] wpList Code.wp wpAnyH

theorem beg_is (c : CrT) (R : List Bool) (i : Nat) : (c.lg R i).beg = if (c.lg R i).arr < (c.S.getD (i + 1) st0).o then (c.S.getD (i + 1) st0).o else (c.lg R i).arr := rfl
end Go.Proofs.YtnapmildbodigaaDoor.T


