/-
  DERIVED. Plain Lean: one column of the schoolbook division.
-/
import Derived.Test.YtgpjfgakhncdnaaDoorPureLim
namespace Go.Proofs.YtgpjfgakhncdnaaDoor

theorem tk_round (l : List Nat) (o j q y c x r d b c' L Yj : Nat) (hk : o + j < l.length) (hx : l.getD (o + j) 0 = x) (hs : r + 1000000000 * d = c + q * y) (hc : c' + r = x + 1000000000 * b)
    (hv : val l + bp o * (q * Yj) = L + bp (o + j) * c) :
    val (l.set (o + j) c') + bp o * (q * (Yj + bp j * y)) = L + bp (o + j + 1) * (d + b) := by
  have h1 := val_set l (o + j) c' hk
  rw [hx] at h1
  have e1 : bp (o + j) * (c' + r) = bp (o + j) * (x + 1000000000 * b) := by rw [hc]
  have e2 : bp (o + j) * (r + 1000000000 * d) = bp (o + j) * (c + q * y) := by rw [hs]
  have e4 : bp o * (q * (Yj + bp j * y)) = bp o * (q * Yj) + bp (o + j) * (q * y) := by
    rw [Nat.mul_add, Nat.mul_add, bp_add]
    congr 1
    ac_rfl
  have e5 : bp (o + j + 1) * (d + b) = bp (o + j) * (1000000000 * d) + bp (o + j) * (1000000000 * b) := by
    rw [bp_succ, Nat.mul_add]
    congr 1 <;> ac_rfl
  rw [Nat.mul_add, Nat.mul_add] at e1 e2
  omega
theorem tk_top (l : List Nat) (o n c x b c' L Q : Nat) (hk : o + n < l.length) (hx : l.getD (o + n) 0 = x) (hc : c' + c = x + 1000000000 * b) (hv : val l + Q = L + bp (o + n) * c) :
    val (l.set (o + n) c') + Q = L + bp (o + n + 1) * b := by
  have h1 := val_set l (o + n) c' hk
  rw [hx] at h1
  have e1 : bp (o + n) * (c' + c) = bp (o + n) * (x + 1000000000 * b) := by rw [hc]
  have e5 : bp (o + n + 1) * b = bp (o + n) * (1000000000 * b) := by rw [bp_succ]; ac_rfl
  rw [Nat.mul_add, Nat.mul_add] at e1
  omega
theorem pb_round (l : List Nat) (o j y c x s L Yj : Nat) (hk : o + j < l.length) (hx : l.getD (o + j) 0 = x) (hs : s = c + (x + y)) (hv : val l + bp (o + j) * c = L + bp o * Yj) :
    val (l.set (o + j) (s % 1000000000)) + bp (o + j + 1) * (s / 1000000000) = L + bp o * (Yj + bp j * y) := by
  have h1 := val_set l (o + j) (s % 1000000000) hk
  rw [hx] at h1
  have e2 : bp (o + j) * s = bp (o + j) * (s % 1000000000) + bp (o + j) * (1000000000 * (s / 1000000000)) := by rw [← Nat.mul_add, Nat.mod_add_div]
  have e3 : bp (o + j) * s = bp (o + j) * c + (bp (o + j) * x + bp (o + j) * y) := by rw [hs, Nat.mul_add, Nat.mul_add]
  have e4 : bp o * (Yj + bp j * y) = bp o * Yj + bp (o + j) * y := by
    rw [Nat.mul_add, bp_add, Nat.mul_assoc]
  have e5 : bp (o + j + 1) * (s / 1000000000) = bp (o + j) * (1000000000 * (s / 1000000000)) := by rw [bp_succ]; ac_rfl
  omega
theorem pb_top (l : List Nat) (o n c x s L Q : Nat) (hk : o + n < l.length) (hx : l.getD (o + n) 0 = x) (hs : s = c + x) (hv : val l + bp (o + n) * c = L + Q) :
    val (l.set (o + n) (s % 1000000000)) + bp (o + n + 1) * (s / 1000000000) = L + Q := by
  have h1 := val_set l (o + n) (s % 1000000000) hk
  rw [hx] at h1
  have e2 : bp (o + n) * s = bp (o + n) * (s % 1000000000) + bp (o + n) * (1000000000 * (s / 1000000000)) := by rw [← Nat.mul_add, Nat.mod_add_div]
  have e3 : bp (o + n) * s = bp (o + n) * c + bp (o + n) * x := by rw [hs, Nat.mul_add]
  have e5 : bp (o + n + 1) * (s / 1000000000) = bp (o + n) * (1000000000 * (s / 1000000000)) := by rw [bp_succ]; ac_rfl
  omega
/-- l' differs from l in the limbs from o up to m alone -/
def OnlyIn (o m : Nat) (l l' : List Nat) : Prop := l'.length = l.length ∧ ∀ i, i < o ∨ m ≤ i → l'.getD i 0 = l.getD i 0
theorem OnlyIn.refl (o : Nat) (l : List Nat) : OnlyIn o o l l := ⟨rfl, fun _ _ => rfl⟩
theorem OnlyIn.set {o m : Nat} {l l' : List Nat} (h : OnlyIn o m l l') (hm : o ≤ m) (c : Nat) : OnlyIn o (m + 1) l (l'.set m c) :=
  ⟨by rw [List.length_set]; exact h.1, fun i hi => by rw [set_getD_ne _ _ _ _ (by omega)]; exact h.2 i (by omega)⟩

end Go.Proofs.YtgpjfgakhncdnaaDoor
