/-
  DERIVED. The walk of the specification's Same.
-/
import Derived.Test.YthihahehmnpenaaDoorRefFl3
namespace Go.Proofs.YthihahehmnpenaaDoor.T
open Go.RowKit
set_option maxRecDepth 8000

theorem tyE_len (np : Nat) (l : List TyT) (i : Nat) : (tyE np l i).length ≤ 9 := by
  unfold tyE
  simp only [List.length_append]
  have h1 : (tyE1 (l.getD i ty0)).length ≤ 1 := by unfold tyE1; exact if_len _ _
  have h2 : (tyE2 l i (l.getD i ty0)).length ≤ 1 := by unfold tyE2; split <;> simp
  have h3 : (tyE3 (l.getD i ty0)).length ≤ 1 := by unfold tyE3; exact if_len _ _
  have h4 : (tyE4 np (l.getD i ty0)).length ≤ 1 := by unfold tyE4; exact if_len _ _
  have h5 : (tyE5 (dimsF l) (l.getD i ty0)).length ≤ 1 := by unfold tyE5; exact if_len _ _
  have h6 : (tyE6 (l.getD i ty0)).length ≤ 1 := by unfold tyE6; exact if_len _ _
  have h7 : (tyE7 (l.getD i ty0)).length ≤ 1 := by unfold tyE7; exact if_len _ _
  have h8 : (tyE8 (l.getD i ty0)).length ≤ 1 := by unfold tyE8; exact if_len _ _
  have h9 : (tyE9 (l.getD i ty0)).length ≤ 1 := by unfold tyE9; exact if_len _ _
  omega
theorem flF_len (np : Nat) (l : List TyT) : ∀ k, (flF np l k).length ≤ 1 + 9 * k
  | 0 => by unfold flF flF0; split <;> simp
  | k + 1 => by
    unfold flF atT
    rw [List.length_append, List.length_map]
    have := flF_len np l k
    have := tyE_len np l k
    omega
theorem atT_step {i : Nat} {l : List Int} {k : Nat} (h : k < l.length) : atT i (l.take (k + 1)) = atT i (l.take k) ++ [(l.getD k 0, dec i)] := by
  unfold atT
  rw [take_more (d := 0) h, List.map_append]
  rfl

end Go.Proofs.YthihahehmnpenaaDoor.T

