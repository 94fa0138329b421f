/-
  DERIVED. La: a part of the base of layer 13 (made by pack.py).
-/
import Derived.Test.YtnapmildbodigaaDoorGA
import Derived.Test.YtnapmildbodigaaDoorGE
/-! What Run answers (by gen_la.py). -/
namespace Go.Proofs.YtnapmildbodigaaDoor.T
open Go.RowKit
set_option maxRecDepth 8000
attribute [local irreducible] wpList Code.wp wpAnyH

theorem runS_is {x : InT} {ty st : Int} {l : List (Int × Bool)} {R : List Bool} (h : runE x ty st l R = 0) : runS x ty st l R = (crs x ty st l).sheet R ∧ posD x.tl x.ol ty st l = true ∧ R.length = l.length + 1 ∧ (crs x ty st l).run R (crs x ty st l).n = 0 := by
 have h1 : runS x ty st l R = (crs x ty st l).sheet R := by unfold runS; rw [if_pos h]
 unfold runE at h
 split at h
 ·rename_i h2
  exact ⟨h1, h2.1, h2.2, by rw [crs_n]; exact h⟩
 ·cases h
theorem posD_len {tl : List TyT} {ol : List OrT} {ty st : Int} {l : List (Int × Bool)} (h : posD tl ol ty st l = true) : l.length ≤ 20 := by
 unfold posD at h
 simp only [Bool.and_eq_true, decide_eq_true_eq] at h
 exact h.1.2
end Go.Proofs.YtnapmildbodigaaDoor.T


