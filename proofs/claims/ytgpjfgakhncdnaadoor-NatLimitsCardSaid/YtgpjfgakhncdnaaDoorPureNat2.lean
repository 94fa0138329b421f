/-
  DERIVED. Plain Lean: carries, long division, digits of products.
-/
import Derived.Test.YtgpjfgakhncdnaaDoorPureNat
namespace Go.Proofs.YtgpjfgakhncdnaaDoor

/-- the digit n, as a byte -/
def dchr (n : Nat) : UInt8 := UInt8.ofNat (48 + n)

/-! ### carries -/
/-- the carry out of the k low digits -/
def cy (u v k : Nat) : Nat := (u % 10 ^ k + v % 10 ^ k) / 10 ^ k
theorem ten_pos (k : Nat) : 0 < 10 ^ k := Nat.pow_pos (by omega)
theorem cy_zero (u v : Nat) : cy u v 0 = 0 := by simp [cy, Nat.mod_one]
theorem cy_le (u v k : Nat) : cy u v k ≤ 1 := by
  have h1 := Nat.mod_lt u (ten_pos k)
  have h2 := Nat.mod_lt v (ten_pos k)
  have : cy u v k < 2 := Nat.div_lt_of_lt_mul (by omega)
  omega
theorem cy_quo (u v k : Nat) : (u + v) / 10 ^ k = u / 10 ^ k + v / 10 ^ k + cy u v k := by
  have hp := ten_pos k
  have h1 := Nat.div_add_mod u (10 ^ k)
  have h2 := Nat.div_add_mod v (10 ^ k)
  rw [cy]
  generalize 10 ^ k = P at *
  have e : u + v = (u % P + v % P) + P * (u / P + v / P) := by rw [Nat.mul_add]; omega
  rw [e, Nat.add_mul_div_left _ _ hp]; omega
theorem cy_dig (u v k : Nat) : (u + v) / 10 ^ k % 10 = (u / 10 ^ k % 10 + v / 10 ^ k % 10 + cy u v k) % 10 := by
  rw [cy_quo]; omega
theorem mod_succ (u k : Nat) : u % 10 ^ (k + 1) = 10 ^ k * (u / 10 ^ k % 10) + u % 10 ^ k := by
  rw [Nat.pow_succ, Nat.mod_mul]; omega
theorem cy_succ (u v k : Nat) : cy u v (k + 1) = (u / 10 ^ k % 10 + v / 10 ^ k % 10 + cy u v k) / 10 := by
  have hp := ten_pos k
  unfold cy
  rw [mod_succ, mod_succ, Nat.pow_succ, ← Nat.div_div_eq_div_mul]
  generalize u / 10 ^ k % 10 = a
  generalize v / 10 ^ k % 10 = b
  generalize u % 10 ^ k = x
  generalize v % 10 ^ k = y
  generalize 10 ^ k = P at *
  congr 1
  have e : P * a + x + (P * b + y) = (x + y) + P * (a + b) := by rw [Nat.mul_add]; omega
  rw [e, Nat.add_mul_div_left _ _ hp]; omega
theorem cy_end (u v k : Nat) (hu : u < 10 ^ k) (hv : v < 10 ^ k) : cy u v k = (u + v) / 10 ^ k := by
  rw [cy, Nat.mod_eq_of_lt hu, Nat.mod_eq_of_lt hv]
theorem lt_pow_of_nd {u k : Nat} (h : nd u ≤ k) : u < 10 ^ k := by
  have := lt_nd u
  have : 10 ^ nd u ≤ 10 ^ k := Nat.pow_le_pow_right (by omega) h
  omega
theorem nd_le_of_lt {u k : Nat} (hk : 0 < k) (h : u < 10 ^ k) : nd u ≤ k := by
  obtain ⟨j, rfl⟩ : ∃ j, k = j + 1 := ⟨k - 1, by omega⟩
  exact nd_le u j h
/-- all digits read: no carry is left -/
theorem sum_none (u v k : Nat) (hu : nd u ≤ k) (hv : nd v ≤ k) (hk : k = nd u ∨ k = nd v) (h : cy u v k = 0) : padL k (u + v) = Lib.decDigits (u + v) := by
  have h0 := nd_pos u
  have h1 := nd_mono (show u ≤ u + v by omega)
  have h2 := nd_mono (show v ≤ u + v by omega)
  rw [cy_end u v k (lt_pow_of_nd hu) (lt_pow_of_nd hv)] at h
  have h3 : u + v < 10 ^ k := by
    apply Decidable.byContradiction
    intro h4
    have := (Nat.div_pos_iff (a := u + v) (b := 10 ^ k)).2 ⟨ten_pos k, by omega⟩
    omega
  have h4 := nd_le_of_lt (by omega) h3
  obtain ⟨j, rfl⟩ : ∃ j, k = j + 1 := ⟨k - 1, by omega⟩
  exact padL_dec j (u + v) (by rcases hk with hk | hk <;> omega)
theorem sum_some (u v k : Nat) (hu : nd u ≤ k) (hv : nd v ≤ k) (h : cy u v k = 1) : dchr 1 :: padL k (u + v) = Lib.decDigits (u + v) := by
  rw [cy_end u v k (lt_pow_of_nd hu) (lt_pow_of_nd hv)] at h
  have h1 : 10 ^ k ≤ u + v := by
    rcases Nat.lt_or_ge (u + v) (10 ^ k) with h4 | h4
    · rw [Nat.div_eq_of_lt h4] at h; omega
    · exact h4
  have h2 := le_nd (u + v) k h1
  have h3 : u + v < 10 ^ (k + 1) := by
    have := lt_pow_of_nd hu
    have := lt_pow_of_nd hv
    rw [Nat.pow_succ]; omega
  have h4 := nd_le (u + v) k h3
  rw [← padL_dec k (u + v) (by omega), padL, h]; rfl
theorem padL_cons (k u d : Nat) (h : u / 10 ^ k % 10 = d) : dchr d :: padL k u = padL (k + 1) u := by rw [padL, h]; rfl

/-! ### borrows: the borrow of u - v is the carry of (u - v) + v -/
theorem bw_step (u v k : Nat) (h : v ≤ u) :
    ((u - v) / 10 ^ k % 10 : Nat) + (v / 10 ^ k % 10 : Nat) + cy (u - v) v k = (u / 10 ^ k % 10) + 10 * cy (u - v) v (k + 1) := by
  have h1 := cy_dig (u - v) v k
  have h2 := cy_succ (u - v) v k
  rw [Nat.sub_add_cancel h] at h1
  omega

/-! ### one digit more -/
theorem trim_snoc (r d : Nat) (hd : d < 10) : trimL (Lib.decDigits r ++ [dchr d]) = Lib.decDigits (10 * r + d) := by
  by_cases h0 : r = 0
  · subst h0
    rw [dec_small (by omega)]
    show trimL [UInt8.ofNat (48 + 0), dchr d] = _
    rw [trimL, if_pos (by rfl), trimL, dec_small (by omega), Nat.mul_zero, Nat.zero_add]; rfl
  · have e : 10 * r + d = (10 * r + d) := rfl
    have h1 : ¬ (10 * r + d) < 10 := by omega
    rw [dec_big h1, show (10 * r + d) / 10 = r by omega, show (10 * r + d) % 10 = d by omega]
    obtain ⟨a, _, _, hd0⟩ := dec_spec (r + 1) r (by omega)
    have hd0 := hd0 h0
    match hx : Lib.decDigits r, a, hd0 with
    | c :: t, _, hd0 =>
      cases t with
      | nil => show trimL [c, _] = _; rw [trimL, if_neg (by simpa using hd0)]; rfl
      | cons x y => show trimL (c :: x :: (y ++ _)) = _; rw [trimL, if_neg (by simpa using hd0)]; rfl
/-- the number that the first k digits of u denote -/
def pre (u k : Nat) : Nat := u / 10 ^ (nd u - k)
theorem pre_zero (u : Nat) : pre u 0 = 0 := by rw [pre]; exact Nat.div_eq_of_lt (lt_nd u)
theorem pre_all (u : Nat) : pre u (nd u) = u := by rw [pre, Nat.sub_self]; simp
theorem pre_succ (u k : Nat) (h : k < nd u) : pre u (k + 1) = 10 * pre u k + u / 10 ^ (nd u - 1 - k) % 10 := by
  unfold pre
  rw [show nd u - k = (nd u - 1 - k) + 1 by omega, show nd u - (k + 1) = nd u - 1 - k by omega, Nat.pow_succ, ← Nat.div_div_eq_div_mul]
  omega
theorem dig_fwd (u k : Nat) (h : k < nd u) : ((Lib.decDigits u).getD k 0).toNat = 48 + u / 10 ^ (nd u - 1 - k) % 10 := by
  rw [← dig_at u (nd u - 1 - k) (by omega), show nd u - 1 - (nd u - 1 - k) = k by omega]
/-- one step of the long division -/
theorem div_step (p v d : Nat) (hv : 0 < v) : (10 * p + d) / v = 10 * (p / v) + (10 * (p % v) + d) / v ∧ (10 * p + d) % v = (10 * (p % v) + d) % v := by
  have h1 := Nat.div_add_mod p v
  have e : 10 * p + d = (10 * (p % v) + d) + v * (10 * (p / v)) := by
    have : 10 * (v * (p / v)) = v * (10 * (p / v)) := by rw [← Nat.mul_assoc, Nat.mul_comm 10 v, Nat.mul_assoc]
    omega
  constructor
  · rw [e, Nat.add_mul_div_left _ _ hv]; omega
  · rw [e, Nat.add_mul_mod_self_left]
theorem small_quo (x v n : Nat) (h1 : n * v ≤ x) (h2 : x - n * v < v) : x / v = n ∧ x % v = x - n * v := by
  have hv : 0 < v := by omega
  have e : x = (x - n * v) + v * n := by rw [Nat.mul_comm]; rw [Nat.mul_comm] at h1; omega
  constructor
  · conv => lhs; rw [e]
    rw [Nat.add_mul_div_left _ _ hv, Nat.div_eq_of_lt h2, Nat.zero_add]
  · conv => lhs; rw [e]
    rw [Nat.add_mul_mod_self_left, Nat.mod_eq_of_lt h2]
theorem quo_lt (r v d : Nat) (hr : r < v) (hd : d < 10) : (10 * r + d) / v < 10 := Nat.div_lt_of_lt_mul (by omega)

/-! ### lengths of results -/
theorem nd_add (u v k : Nat) (hu : nd u ≤ k) (hv : nd v ≤ k) : nd (u + v) ≤ k + 1 := by
  have := lt_pow_of_nd hu
  have := lt_pow_of_nd hv
  exact nd_le _ _ (by rw [Nat.pow_succ]; omega)
theorem nd_mul (u v j k : Nat) (hu : nd u ≤ j) (hv : nd v ≤ k) : nd (u * v) ≤ j + k := by
  have h1 := lt_pow_of_nd hu
  have h2 := lt_pow_of_nd hv
  have h0 := nd_pos u
  apply nd_le_of_lt (by omega)
  rw [Nat.pow_add]
  rcases Nat.eq_zero_or_pos v with h | h
  · subst h; rw [Nat.mul_zero, ← Nat.pow_add]; exact ten_pos _
  · exact Nat.mul_lt_mul_of_lt_of_le h1 (Nat.le_of_lt h2) (by omega)

end Go.Proofs.YtgpjfgakhncdnaaDoor
