/-
  DERIVED. Merged by mkbase.py.
-/
import Derived.Test.YthamlnolfagpiaaGreatDoorIntRef
namespace Go.Proofs.YthamlnolfagpiaaGreatDoor.D
open Go.RowKit
set_option maxRecDepth 8000

end Go.Proofs.YthamlnolfagpiaaGreatDoor.D

namespace Go.Proofs.YthamlnolfagpiaaGreatDoor.D
open Go.RowKit
set_option maxRecDepth 8000

/-- what Int answers for an integer's text of at most 19 digits -/
def intV (z : Int) : Int := if -9223372036854775808 ≤ z ∧ z ≤ 9223372036854775807 then z else 0
def intE (z : Int) : Int := if -9223372036854775808 ≤ z ∧ z ≤ 9223372036854775807 then 0 else 4
theorem intV_in {z : Int} (h1 : -9223372036854775808 ≤ z) (h2 : z ≤ 9223372036854775807) : intV z = z := by rw [intV, if_pos ⟨h1, h2⟩]
theorem intE_in {z : Int} (h1 : -9223372036854775808 ≤ z) (h2 : z ≤ 9223372036854775807) : intE z = 0 := by rw [intE, if_pos ⟨h1, h2⟩]
theorem intV_out {z : Int} (h : z < -9223372036854775808 ∨ 9223372036854775807 < z) : intV z = 0 := by rw [intV, if_neg (by omega)]
theorem intE_out {z : Int} (h : z < -9223372036854775808 ∨ 9223372036854775807 < z) : intE z = 4 := by rw [intE, if_neg (by omega)]

theorem tq (x : Nat) (hx : x < 10) : (-9223372036854775808 + (x : Int)).tdiv 10 = -(((9223372036854775808 - x) / 10 : Nat) : Int) := by
  rw [show (-9223372036854775808 + (x : Int)) = -((9223372036854775808 - x : Nat) : Int) by omega, Int.neg_tdiv]; rfl
theorem drop_le (l : List Nat) (k : Nat) : val (l.drop k) ≤ val l := by
  rcases Nat.lt_or_ge l.length k with h | h
  · rw [List.drop_of_length_le (by omega), val_nil]; omega
  · rw [val_split l k h]
    have := Nat.le_mul_of_pos_left (val (l.drop k)) (bp_pos k)
    omega

end Go.Proofs.YthamlnolfagpiaaGreatDoor.D

