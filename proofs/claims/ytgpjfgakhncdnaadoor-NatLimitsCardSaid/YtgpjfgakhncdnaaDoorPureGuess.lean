/-
  DERIVED. Plain Lean: the first three limbs of a part over the first two of a divisor.
-/
import Derived.Test.YtgpjfgakhncdnaaDoorPureD64
namespace Go.Proofs.YtgpjfgakhncdnaaDoor

/-- the value of the j limbs from o on -/
def pv (l : List Nat) (o j : Nat) : Nat := val ((l.drop o).take j)
theorem pv_zero (l : List Nat) (o : Nat) : pv l o 0 = 0 := by simp [pv, val_nil]
theorem pv_succ (l : List Nat) (o j : Nat) (h : o + j < l.length) : pv l o (j + 1) = pv l o j + bp j * l.getD (o + j) 0 := by
  unfold pv
  rw [val_take_succ _ _ (by rw [List.length_drop]; omega)]
  congr 2
  simp [List.getD_eq_getElem?_getD, List.getElem?_drop]
theorem pv_lt (l : List Nat) (o j : Nat) (hlo : lo l) : pv l o j < bp j := by
  have h := val_lt (lo_take (lo_drop hlo o) j)
  exact Nat.lt_of_lt_of_le h (bp_mono (List.length_take_le _ _))
theorem guess_one (l : List Nat) (o y p0 p1 : Nat) (h : o + 1 < l.length) (h0 : l.getD o 0 = p0) (h1 : l.getD (o + 1) 0 = p1) (hP : pv l o 2 < 1000000000 * y) :
    pv l o 2 = p1 * 1000000000 + p0 ∧ (p1 * 1000000000 + p0) / y < 1000000000 ∧ pv l o 2 / y ≤ (p1 * 1000000000 + p0) / y := by
  have e : pv l o 2 = p1 * 1000000000 + p0 := by
    rw [pv_succ l o 1 h, pv_succ l o 0 (by omega), pv_zero, bp_zero, bp_succ, bp_zero, Nat.add_zero, h0, h1]; omega
  rw [e] at hP ⊢
  refine ⟨rfl, ?_, Nat.le_refl _⟩
  apply Nat.div_lt_of_lt_mul
  omega
theorem guess_more (l ly : List Nat) (o k p0 p1 p2 y0 y1 : Nat) (hlo : lo l) (h : o + k + 2 < l.length) (hy : ly.length = k + 2) (h0 : l.getD (o + k) 0 = p0) (h1 : l.getD (o + k + 1) 0 = p1) (h2 : l.getD (o + k + 2) 0 = p2) (g0 : ly.getD k 0 = y0) (g1 : ly.getD (k + 1) 0 = y1) (hy1 : 0 < y1) :
    pv l o (k + 3) / val ly ≤ ((p2 * 1000000000 + p1) * 1000000000 + p0) / (y1 * 1000000000 + y0) := by
  have e : pv l o (k + 3) = bp k * ((p2 * 1000000000 + p1) * 1000000000 + p0) + pv l o k := by
    rw [pv_succ l o (k + 2) (by omega), pv_succ l o (k + 1) (by omega), pv_succ l o k (by omega), show bp (k + 2) = 1000000000 * (1000000000 * bp k) by rw [bp_succ, bp_succ], bp_succ, show o + (k + 2) = o + k + 2 by omega, show o + (k + 1) = o + k + 1 by omega, h0, h1, h2]
    have e1 : bp k * ((p2 * 1000000000 + p1) * 1000000000 + p0) = bp k * (p2 * 1000000000 * 1000000000) + bp k * (p1 * 1000000000) + bp k * p0 := by
      rw [Nat.add_mul, Nat.mul_add, Nat.mul_add]
    have e2 : bp k * (p2 * 1000000000 * 1000000000) = 1000000000 * (1000000000 * bp k) * p2 := by ac_rfl
    have e3 : bp k * (p1 * 1000000000) = 1000000000 * bp k * p1 := by ac_rfl
    omega
  have hd : pv l o (k + 3) / bp k = (p2 * 1000000000 + p1) * 1000000000 + p0 := by
    rw [e, Nat.mul_add_div (bp_pos k), Nat.div_eq_of_lt (pv_lt l o k hlo), Nat.add_zero]
  have hy2 : bp k * (y1 * 1000000000 + y0) ≤ val ly := by
    have e4 : val ly = val (ly.take k) + bp k * y0 + 1000000000 * bp k * y1 := by
      have a1 := val_take_succ ly (k + 1) (by omega)
      have a2 := val_take_succ ly k (by omega)
      rw [show k + 1 + 1 = ly.length by omega, List.take_length, g1, bp_succ] at a1
      rw [g0] at a2
      omega
    have e5 : bp k * (y1 * 1000000000 + y0) = 1000000000 * bp k * y1 + bp k * y0 := by
      rw [Nat.mul_add]
      congr 1
      ac_rfl
    omega
  have hp : 0 < bp k * (y1 * 1000000000 + y0) := Nat.mul_pos (bp_pos k) (by omega)
  refine Nat.le_trans (Nat.div_le_div_left hy2 hp) ?_
  rw [← Nat.div_div_eq_div_mul, hd]
  exact Nat.le_refl _
theorem guess_hi (x p0 h l y1 y0 c l2 : Nat) (hx : x < 1000000000000000000) (hp0 : p0 < 1000000000) (e1 : x * 1000000000 = h * 18446744073709551616 + l) (e2 : l + p0 = c * 18446744073709551616 + l2) (hy : 0 < y1) :
    h + c < y1 * 1000000000 + y0 ∧ x * 1000000000 + p0 = (h + c) * 18446744073709551616 + l2 := by
  omega

end Go.Proofs.YtgpjfgakhncdnaaDoor
