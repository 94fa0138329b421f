/-
  DERIVED. Plain Lean: decimal digits and limbs.
-/
import Derived.Test.YtgpjfgakhncdnaaDoorPureLim
namespace Go.Proofs.YtgpjfgakhncdnaaDoor

theorem bp_ten (k : Nat) : bp k = 10 ^ (9 * k) := by unfold bp; rw [Nat.pow_mul]
theorem grp_step (u L i a : Nat) (hi : i < L) (ha : a ≤ i) : u / 10 ^ (L - (i + 1)) % 10 ^ (i + 1 - a) = u / 10 ^ (L - i) % 10 ^ (i - a) * 10 + u / 10 ^ (L - 1 - i) % 10 := by
  have e1 : L - (i + 1) = L - 1 - i := by omega
  have e2 : L - i = (L - 1 - i) + 1 := by omega
  have e3 : i + 1 - a = (i - a) + 1 := by omega
  rw [e1, e2, e3, Nat.pow_succ (m := L - 1 - i), ← Nat.div_div_eq_div_mul, Nat.pow_succ, Nat.mul_comm (10 ^ (i - a)) 10, Nat.mod_mul]
  omega
theorem grp_lt (u j t : Nat) (ht : t ≤ 9) : u / 10 ^ j % 10 ^ t < 1000000000 := by
  have h1 := Nat.mod_lt (u / 10 ^ j) (ten_pos t)
  have h2 : 10 ^ t ≤ 10 ^ 9 := Nat.pow_le_pow_right (by omega) ht
  have h3 : (10 : Nat) ^ 9 = 1000000000 := by decide
  omega
theorem grp_end (u k E : Nat) (lz : List Nat) (gr : Nat) (hl : lz.length = k) (hv : val lz = u % bp k) (hu : u < 10 ^ (9 * k + E)) (hg : gr = u / 10 ^ (9 * k) % 10 ^ (E - (E - 9))) :
    val (lz ++ [gr]) = u % bp (k + 1) := by
  rw [val_append, hl, hv, val_cons, val_nil, Nat.mul_zero, Nat.add_zero, bp_succ, Nat.mul_comm 1000000000, Nat.mod_mul]
  have hgr : gr = u / bp k % 1000000000 := by
    rw [hg, ← bp_ten]
    rcases Nat.lt_or_ge E 9 with h | h
    · have e : E - (E - 9) = E := by omega
      have h1 : u / bp k < 10 ^ E := by
        rw [bp_ten]
        apply Nat.div_lt_of_lt_mul
        rw [← Nat.pow_add]; exact hu
      have h2 : 10 ^ E ≤ 10 ^ 9 := Nat.pow_le_pow_right (by omega) (by omega)
      have h3 : (10 : Nat) ^ 9 = 1000000000 := by decide
      rw [e, Nat.mod_eq_of_lt h1, Nat.mod_eq_of_lt (by omega)]
    · have e : E - (E - 9) = 9 := by omega
      rw [e]
  rw [← hgr]
theorem grp_all (u k L : Nat) (hu : u < 10 ^ L) (h : L ≤ 9 * k) : u % bp k = u := by
  apply Nat.mod_eq_of_lt
  rw [bp_ten]
  exact Nat.lt_of_lt_of_le hu (Nat.pow_le_pow_right (by omega) h)
theorem num_byte (u i : Nat) (h : i < (num u).size) : (num u)[i].toNat = 48 + u / 10 ^ ((num u).size - 1 - i) % 10 := by
  have h1 := dig_fwd u i (by unfold nd; rw [← num_size]; exact h)
  rw [num_size]
  unfold nd at h1
  rw [← h1]
  congr 1
  simp [num, List.getD_eq_getElem?_getD]
  rw [List.getElem?_eq_getElem (by rw [← num_size]; exact h)]
  rfl

theorem dec_snoc (m d : Nat) (hm : 0 < m) (hd : d < 10) : Lib.decDigits (10 * m + d) = Lib.decDigits m ++ [dchr d] := by
  rw [Lib.decDigits, dif_neg (by omega), show (10 * m + d) / 10 = m by omega, show (10 * m + d) % 10 = d by omega]
  rfl
theorem dec_pad (k : Nat) : ∀ (T a : Nat), 0 < T → a < 10 ^ k → Lib.decDigits (T * 10 ^ k + a) = Lib.decDigits T ++ padL k a := by
  induction k with
  | zero =>
    intro T a hT ha
    have : a = 0 := by simpa using ha
    subst this
    simp [padL]
  | succ k ih =>
    intro T a hT ha
    have h1 : T * 10 ^ (k + 1) + a = 10 * (T * 10 ^ k + a / 10) + a % 10 := by rw [Nat.pow_succ, ← Nat.mul_assoc]; omega
    have h2 : a / 10 < 10 ^ k := by rw [Nat.pow_succ] at ha; omega
    have h3 : 0 < T * 10 ^ k := Nat.mul_pos hT (ten_pos k)
    rw [h1, dec_snoc _ _ (by omega) (by omega), ih T (a / 10) hT h2, padL_snoc, List.append_assoc]
    rfl
theorem fmt_step (l : List Nat) (j : Nat) (hlo : lo l) (hj : j < l.length) (hT : 0 < val (l.drop (j + 1))) : Lib.decDigits (val (l.drop j)) = Lib.decDigits (val (l.drop (j + 1))) ++ padL 9 (l.getD j 0) := by
  have h := lo_getD hlo j
  rw [val_drop l j hj, ← dec_pad 9 _ _ hT (by simpa using h)]
  congr 1
  omega
theorem drop_pos (l : List Nat) (j : Nat) (hj : j < l.length) (h : 0 < val (l.drop (j + 1))) : 0 < val (l.drop j) := by
  rw [val_drop l j hj]; omega
theorem top_drop (l : List Nat) (j : Nat) (h : l.length = j + 1) : val (l.drop j) = l.getD j 0 := by
  rw [val_drop l j (by omega), List.drop_of_length_le (by omega), val_nil]; omega
theorem dec_len9 (a : Nat) (h : a < 1000000000) : (Lib.decDigits a).length ≤ 9 := nd_le a 8 (by simpa using h)
theorem limbs_topj (u : Nat) (j : Nat) (h : (limbs u).length = j + 1) : 0 < (limbs u).getD j 0 := by
  rcases limbs_top u with e | e
  · rw [e] at h; cases h
  · rw [h] at e; exact Nat.pos_of_ne_zero e

end Go.Proofs.YtgpjfgakhncdnaaDoor
