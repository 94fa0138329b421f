/-
  DERIVED. Lb: a part of the base of layer 13 (made by pack.py).
-/
import Derived.Test.YtnapmildbodigaaDoorGA
import Derived.Test.YtnapmildbodigaaDoorGF
import Derived.Test.YtnapmildbodigaaDoorFa
/-! The stops of a course (by gen_lb.py). -/
namespace Go.Proofs.YtnapmildbodigaaDoor.T
open Go.RowKit
set_option maxRecDepth 8000
attribute [local irreducible] wpList Code.wp wpAnyH

theorem runS_no {x : InT} {ty st : Int} {l : List (Int × Bool)} {R : List Bool} (h : ¬ runE x ty st l R = 0) : runS x ty st l R = sh0 := if_neg h
theorem posD_ty {tl : List TyT} {ol : List OrT} {ty st : Int} {l : List (Int × Bool)} (h : posD tl ol ty st l = true) : 0 ≤ ty ∧ ty < tl.length ∧ 0 ≤ st ∧ st ≤ 4096 := by
 unfold posD at h
 simp only [Bool.and_eq_true, decide_eq_true_eq] at h
 exact ⟨h.1.1.1.1.1, h.1.1.1.1.2, h.1.1.1.2, h.1.1.2⟩
theorem posD_at {tl : List TyT} {ol : List OrT} {ty st : Int} {l : List (Int × Bool)} (h : posD tl ol ty st l = true) {i : Nat} (hi : i < l.length) : okR ol (l.getD i (0, false)).1 (l.getD i (0, false)).2 = true := by
 unfold posD at h
 simp only [Bool.and_eq_true, decide_eq_true_eq] at h
 have h1 := List.all_eq_true.1 h.2 _ (getD_mem (d := (0, false)) hi)
 rw [okR_stop]
 exact h1
theorem okR_in {ol : List OrT} {i : Int} {d : Bool} (h : okR ol i d = true) : 0 ≤ i ∧ i.toNat < ol.length ∧ stopV ol i d = stQ (ol.getD i.toNat or0) d := by
 have h0 := h
 unfold okR at h
 simp only [Bool.and_eq_true, decide_eq_true_eq] at h
 have h1 := h.1
 unfold inR at h1
 simp only [Bool.and_eq_true, decide_eq_true_eq] at h1
 refine ⟨h1.1, by omega, ?_⟩
 rw [← stR_stop h0]
 unfold stR
 rw [if_pos h.1]
theorem crs_at (x : InT) (ty st : Int) {l : List (Int × Bool)} {i : Nat} (hi : i < l.length) : (crs x ty st l).S.getD (i + 1) st0 = stopV x.ol (l.getD i (0, false)).1 (l.getD i (0, false)).2 := by
 show (crsS _ x.ol l).getD (i + 1) st0 = _
 unfold crsS
 rw [List.getD_eq_getElem?_getD, List.getElem?_append_left (by simp; omega), List.getElem?_cons_succ, List.getElem?_map, List.getD_eq_getElem?_getD, List.getElem?_eq_getElem hi]
 rfl
theorem crs_end (x : InT) (ty st : Int) (l : List (Int × Bool)) : ((crs x ty st l).S.getD (l.length + 1) st0).c = (x.tl.getD ty.toNat ty0).cls := by
 show ((crsS _ x.ol l).getD (l.length + 1) st0).c = _
 unfold crsS
 rw [List.getD_eq_getElem?_getD, List.getElem?_append_right (by simp)]
 simp
theorem beg_is (c : CrT) (R : List Bool) (i : Nat) : (c.lg R i).beg = if (c.lg R i).arr < (c.S.getD (i + 1) st0).o then (c.S.getD (i + 1) st0).o else (c.lg R i).arr := rfl
theorem dep_is (c : CrT) (R : List Bool) (i : Nat) : (c.lg R (i + 1)).dep = if R.getD (i + 1) false = true then (c.lg R i).beg + (c.S.getD (i + 1) st0).s + c.ty.rst else (c.lg R i).beg + (c.S.getD (i + 1) st0).s := rfl
theorem dep_0 (c : CrT) (R : List Bool) : (c.lg R 0).dep = if R.getD 0 false = true then c.rd + c.ty.rst else c.rd := rfl

end Go.Proofs.YtnapmildbodigaaDoor.T


