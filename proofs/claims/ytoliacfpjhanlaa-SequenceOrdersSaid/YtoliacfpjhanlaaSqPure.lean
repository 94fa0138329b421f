/-
  DERIVED. SqPure: a part of the base of layer 13 (made by pack.py).
-/
import Derived.Laws.IdiomCopy
import Derived.Deep.OwnRows
import Derived.Test.YtoliacfpjhanlaaSe
/-! Sequences are totally ordered. -/
namespace Go.Proofs.Ytoliacfpjhanlaa.T
open Go.RowKit
set_option maxRecDepth 8000

theorem cmpV_neg (x y : Int × Bool) : cmpV y x = -cmpV x y := by
  obtain ⟨x1, x2⟩ := x
  obtain ⟨y1, y2⟩ := y
  unfold cmpV
  simp only
  by_cases h1 : x1 < y1
  · rw [if_pos h1, if_neg (by omega), if_pos h1]; rfl
  · by_cases h2 : y1 < x1
    · rw [if_pos h2, if_neg h1, if_pos h2]
    · rw [if_neg h1, if_neg h2, if_neg h2, if_neg h1]
      cases x2 <;> cases y2 <;> rfl
theorem cmpV_trans {x y z : Int × Bool} (h : cmpV x y < 0) (k : cmpV y z < 0) : cmpV x z < 0 := by
  obtain ⟨x1, x2⟩ := x
  obtain ⟨y1, y2⟩ := y
  obtain ⟨z1, z2⟩ := z
  have hh : x1 < y1 ∨ (x1 = y1 ∧ x2 = false ∧ y2 = true) := by
    unfold cmpV at h
    simp only at h
    by_cases h1 : x1 < y1
    · exact .inl h1
    · rw [if_neg h1] at h
      by_cases h2 : y1 < x1
      · rw [if_pos h2] at h; omega
      · rw [if_neg h2] at h
        refine .inr ⟨by omega, ?_⟩
        cases x2 <;> cases y2 <;> simp_all
  have kk : y1 < z1 ∨ (y1 = z1 ∧ y2 = false ∧ z2 = true) := by
    unfold cmpV at k
    simp only at k
    by_cases h1 : y1 < z1
    · exact .inl h1
    · rw [if_neg h1] at k
      by_cases h2 : z1 < y1
      · rw [if_pos h2] at k; omega
      · rw [if_neg h2] at k
        refine .inr ⟨by omega, ?_⟩
        cases y2 <;> cases z2 <;> simp_all
  have hlt : x1 < z1 := by
    rcases hh with hh | ⟨hh, -, e⟩
    · rcases kk with kk | ⟨kk, -, -⟩ <;> omega
    · rcases kk with kk | ⟨-, e2, -⟩
      · omega
      · rw [e] at e2; cases e2
  unfold cmpV
  simp only
  rw [if_pos hlt]
  decide
theorem cmpL_neg : ∀ a b : List (Int × Bool), cmpL b a = -cmpL a b
  | [], [] => rfl
  | [], _ :: _ => rfl
  | _ :: _, [] => rfl
  | x :: a, y :: b => by
    unfold cmpL
    have h := cmpV_neg x y
    by_cases h1 : cmpV x y = 0
    · rw [if_pos h1, if_pos (by omega)]; exact cmpL_neg a b
    · rw [if_neg h1, if_neg (by omega)]; exact h
theorem cmpL_zero : ∀ {a b : List (Int × Bool)}, cmpL a b = 0 ↔ a = b
  | [], [] => ⟨fun _ => rfl, fun _ => rfl⟩
  | [], _ :: _ => ⟨fun h => by unfold cmpL at h; omega, fun h => by cases h⟩
  | _ :: _, [] => ⟨fun h => by unfold cmpL at h; omega, fun h => by cases h⟩
  | x :: a, y :: b => by
    unfold cmpL
    rw [List.cons.injEq]
    by_cases h1 : cmpV x y = 0
    · rw [if_pos h1, cmpL_zero]
      exact ⟨fun h => ⟨cmpV_z.1 h1, h⟩, fun h => h.2⟩
    · rw [if_neg h1]
      exact ⟨fun h => absurd h h1, fun h => absurd (cmpV_z.2 h.1) h1⟩
theorem cmpL_trans : ∀ {a b c : List (Int × Bool)}, cmpL a b < 0 → cmpL b c < 0 → cmpL a c < 0
  | [], [], _, h, _ => by unfold cmpL at h; omega
  | _ :: _, [], _, h, _ => by unfold cmpL at h; omega
  | _, _ :: _, [], _, k => by unfold cmpL at k; omega
  | [], _ :: _, _ :: _, _, _ => by unfold cmpL; omega
  | x :: a, y :: b, z :: c, h, k => by
    unfold cmpL at h k ⊢
    by_cases h1 : cmpV x y = 0
    · have e := cmpV_z.1 h1
      subst e
      rw [if_pos h1] at h
      by_cases h2 : cmpV x z = 0
      · rw [if_pos h2] at k ⊢
        exact cmpL_trans h k
      · rw [if_neg h2] at k ⊢
        exact k
    · rw [if_neg h1] at h
      by_cases h2 : cmpV y z = 0
      · have e := cmpV_z.1 h2
        subst e
        rw [if_neg h1]
        exact h
      · rw [if_neg h2] at k
        have h3 := cmpV_trans h k
        rw [if_neg (by omega)]
        exact h3
theorem less_tri (a b : List (Int × Bool)) : (lessL a b = true ∧ lessL b a = false ∧ a ≠ b) ∨ (lessL a b = false ∧ lessL b a = true ∧ a ≠ b) ∨ (lessL a b = false ∧ lessL b a = false ∧ a = b) := by
  unfold lessL
  rw [cmpL_neg a b]
  by_cases h1 : cmpL a b < 0
  · exact .inl ⟨decide_eq_true h1, decide_eq_false (by omega), fun e => by rw [cmpL_zero.2 e] at h1; omega⟩
  · by_cases h2 : cmpL a b = 0
    · exact .inr (.inr ⟨decide_eq_false h1, decide_eq_false (by omega), cmpL_zero.1 h2⟩)
    · exact .inr (.inl ⟨decide_eq_false h1, decide_eq_true (by omega), fun e => h2 (cmpL_zero.2 e)⟩)
theorem less_trans {a b c : List (Int × Bool)} (h : lessL a b = true) (k : lessL b c = true) : lessL a c = true :=
  decide_eq_true (cmpL_trans (of_decide_eq_true h) (of_decide_eq_true k))
end Go.Proofs.Ytoliacfpjhanlaa.T


