/-
  DERIVED. Plain Lean: how many ways there are to choose; the subsets of one size.
-/
import Derived.Test.YtalfonpkefhlmaaDoorSetPure
namespace Go.Proofs.YtalfonpkefhlmaaDoor.S

/-- how many ways there are to choose k of n -/
def bin : Nat → Nat → Nat
  | _, 0 => 1
  | 0, _ + 1 => 0
  | n + 1, k + 1 => bin n k + bin n (k + 1)
theorem bin_zero (n : Nat) : bin n 0 = 1 := by cases n <;> rfl
theorem bin_step (n k : Nat) : bin (n + 1) (k + 1) = bin n k + bin n (k + 1) := rfl
theorem bin_big : ∀ {n k : Nat}, n < k → bin n k = 0
  | _, 0, h => absurd h (Nat.not_lt_zero _)
  | 0, _ + 1, _ => rfl
  | n + 1, k + 1, h => by rw [bin_step, bin_big (show n < k by omega), bin_big (show n < k + 1 by omega)]
theorem bin_self : ∀ n, bin n n = 1
  | 0 => rfl
  | n + 1 => by rw [bin_step, bin_self n, bin_big (Nat.lt_succ_self n)]
theorem bin_mul : ∀ n k, (k + 1) * bin (n + 1) (k + 1) = (n + 1) * bin n k
  | n, 0 => by
    rw [bin_zero]
    induction n with
    | zero => rfl
    | succ n ih => rw [bin_step, bin_zero]; simp at ih ⊢; omega
  | 0, k + 1 => by rw [bin_step, bin_big (show 0 < k + 1 by omega), bin_big (show 0 < k + 1 + 1 by omega)]; simp
  | n + 1, k + 1 => by
    have h1 := bin_mul n k
    have h2 := bin_mul n (k + 1)
    rw [bin_step (n + 1) (k + 1), bin_step n k]
    rw [bin_step n k] at h1
    grind
theorem bin_symm : ∀ n k, k ≤ n → bin n (n - k) = bin n k
  | n, 0, _ => by rw [Nat.sub_zero, bin_self, bin_zero]
  | 0, k + 1, h => absurd h (by omega)
  | n + 1, k + 1, h => by
    rw [show n + 1 - (k + 1) = n - k by omega, bin_step]
    by_cases hk : k = n
    · subst hk; rw [Nat.sub_self, bin_zero, bin_self, bin_big (Nat.lt_succ_self k)]
    · have h1 := bin_symm n k (by omega)
      have h2 := bin_symm n (k + 1) (by omega)
      obtain ⟨d, hd⟩ : ∃ d, n - k = d + 1 := ⟨n - k - 1, by omega⟩
      rw [show n - (k + 1) = d by omega] at h2
      rw [hd] at h1 ⊢
      rw [bin_step, h1, h2]; omega
/-- one factor more -/
theorem bin_next (m i : Nat) : bin (m + i) i * (m + (i + 1)) / (i + 1) = bin (m + (i + 1)) (i + 1) := by
  have h := bin_mul (m + i) i
  rw [Nat.mul_comm (bin (m + i) i), show m + (i + 1) = m + i + 1 by omega, ← h, Nat.mul_div_cancel_left _ (by omega)]
theorem bin_up (m i : Nat) : bin (m + i) i ≤ bin (m + (i + 1)) (i + 1) := by
  rw [show m + (i + 1) = m + i + 1 by omega, bin_step]; omega
theorem bin_up_le (m : Nat) {i k : Nat} (h : i ≤ k) : bin (m + i) i ≤ bin (m + k) k := by
  induction k with
  | zero => have : i = 0 := by omega
            subst this; exact Nat.le_refl _
  | succ k ih =>
    by_cases e : i = k + 1
    · subst e; exact Nat.le_refl _
    · exact Nat.le_trans (ih (by omega)) (bin_up m k)
theorem bin_le_n (n k : Nat) : bin n k ≤ bin (n + 1) k := by
  cases k with
  | zero => rw [bin_zero, bin_zero]; exact Nat.le_refl _
  | succ k => rw [bin_step]; omega
theorem bin_le_nk (n k : Nat) : bin n k ≤ bin (n + 1) (k + 1) := by rw [bin_step]; omega
/-- what Choose answers -/
def cho (n : Nat) (k : Int) : Nat := if k < 0 then 0 else min (bin n k.toNat) 100000

/-! ### the subsets of one size -/
def szL (l : List Nat) : Nat → Nat → List Nat
  | _, 0 => [0]
  | 0, _ + 1 => []
  | n + 1, k + 1 => szL l n (k + 1) ++ (szL l n k).map (· + 2 ^ l.getD n 0)
theorem szL_zero (l : List Nat) (n : Nat) : szL l n 0 = [0] := by cases n <;> rfl
theorem szL_step (l : List Nat) (n k : Nat) : szL l (n + 1) (k + 1) = szL l n (k + 1) ++ (szL l n k).map (· + 2 ^ l.getD n 0) := rfl
theorem szL_len (l : List Nat) : ∀ n k, (szL l n k).length = bin n k
  | n, 0 => by rw [szL_zero, bin_zero]; rfl
  | 0, _ + 1 => rfl
  | n + 1, k + 1 => by rw [szL_step, bin_step, List.length_append, List.length_map, szL_len l n, szL_len l n]; omega
theorem szL_big (l : List Nat) {n k : Nat} (h : n < k) : szL l n k = [] := List.eq_nil_of_length_eq_zero (by rw [szL_len, bin_big h])
theorem sumP_more {l : List Nat} {n : Nat} (h : n < l.length) : sumP (l.take (n + 1)) = sumP (l.take n) + 2 ^ l.getD n 0 := by
  rw [List.take_succ_eq_append_getElem h, sumP_app, List.getD_eq_getElem?_getD, List.getElem?_eq_getElem h]; simp [sumP]
theorem szL_le (l : List Nat) : ∀ n k, n ≤ l.length → ∀ x ∈ szL l n k, x ≤ sumP (l.take n)
  | n, 0, _, x, hx => by rw [szL_zero] at hx; simp at hx; omega
  | 0, _ + 1, _, x, hx => by simp [szL] at hx
  | n + 1, k + 1, h, x, hx => by
    rw [szL_step, List.mem_append, List.mem_map] at hx
    rw [sumP_more (by omega)]
    rcases hx with hx | ⟨y, hy, rfl⟩
    · have := szL_le l n (k + 1) (by omega) x hx
      exact Nat.le_trans this (Nat.le_add_right _ _)
    · exact Nat.add_le_add_right (szL_le l n k (by omega) y hy) _
theorem sumP_take_le (l : List Nat) (n : Nat) : sumP (l.take n) ≤ sumP l := by
  have e := congrArg sumP (List.take_append_drop n l)
  rw [sumP_app] at e; omega

end Go.Proofs.YtalfonpkefhlmaaDoor.S

