/-
  DERIVED. Lb: a part of the base of layer 13 (made by pack.py).
-/
import Derived.Test.YtnapmildbodigaaDoorGA
import Derived.Test.YtnapmildbodigaaDoorGE
import Derived.Test.YtnapmildbodigaaDoorFa
/-! The stops of a course (by gen_lb.py). -/
namespace Go.Proofs.YtnapmildbodigaaDoor.T
open Go.RowKit
set_option maxRecDepth 8000
attribute [local irreducible] wpList Code.wp wpAnyH

theorem runS_no {x : InT} {ty st : Int} {l : List (Int × Bool)} {R : List Bool} (h : ¬ runE x ty st l R = 0) : runS x ty st l R = sh0 := if_neg h
theorem posD_ty {tl : List TyT} {ol : List OrT} {ty st : Int} {l : List (Int × Bool)} (h : posD tl ol ty st l = true) : 0 ≤ ty ∧ ty < tl.length ∧ 0 ≤ st ∧ st ≤ 4096 := by
 unfold posD at h
 simp only [Bool.and_eq_true, decide_eq_true_eq] at h
 exact ⟨h.1.1.1.1.1, h.1.1.1.1.2, h.1.1.1.2, h.1.1.2⟩
theorem posD_at {tl : List TyT} {ol : List OrT} {ty st : Int} {l : List (Int × Bool)} (h : posD tl ol ty st l = true) {i : Nat} (hi : i < l.length) : okR ol (l.getD i (0, false)).1 (l.getD i (0, false)).2 = true := by
 unfold posD at h
 simp only [Bool.and_eq_true, decide_eq_true_eq] at h
 have h1 := List.all_eq_true.1 h.2 _ (getD_mem (d := (0, false)) hi)
 rw [okR_stop]
 exact h1
theorem crs_at (x : InT) (ty st : Int) {l : List (Int × Bool)} {i : Nat} (hi : i < l.length) : (crs x ty st l).S.getD (i + 1) st0 = stopV x.ol (l.getD i (0, false)).1 (l.getD i (0, false)).2 := by
 show (crsS _ x.ol l).getD (i + 1) st0 = _
 unfold crsS
 rw [List.getD_eq_getElem?_getD, List.getElem?_append_left (by simp; omega), List.getElem?_cons_succ, List.getElem?_map, List.getD_eq_getElem?_getD, List.getElem?_eq_getElem hi]
 rfl
end Go.Proofs.YtnapmildbodigaaDoor.T


