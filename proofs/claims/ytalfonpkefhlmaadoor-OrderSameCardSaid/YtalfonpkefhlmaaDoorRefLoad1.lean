/-
  DERIVED. The walks of lorryref06's Right, Fits, Same, even and of the laws' within, all.
-/
import Derived.Test.YtalfonpkefhlmaaDoorLoadPure
namespace Go.Proofs.YtalfonpkefhlmaaDoor.L
open Go.RowKit
set_option maxRecDepth 8000

theorem all_drop {l : List Int} {p : Int → Bool} {k : Nat} (h : k < l.length) : (l.drop k).all p = (p (l.getD k 0) && (l.drop (k + 1)).all p) := by
  rw [drop_more (d := 0) h, List.all_cons]

theorem inRange_eq (x : Int) : inRange x = (decide (0 ≤ x) && decide (x ≤ 1000)) := rfl
theorem leAll_drop {a b : List Int} {k : Nat} (h : k < a.length) (h2 : a.length = b.length) : leAll (a.drop k) (b.drop k) = (decide (a.getD k 0 ≤ b.getD k 0) && leAll (a.drop (k + 1)) (b.drop (k + 1))) := by
  rw [drop_more (d := 0) h, drop_more (d := 0) (show k < b.length by omega), leAll_step]
end Go.Proofs.YtalfonpkefhlmaaDoor.L

