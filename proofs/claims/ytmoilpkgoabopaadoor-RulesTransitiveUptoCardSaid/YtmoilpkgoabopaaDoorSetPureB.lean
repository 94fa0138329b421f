/-
  DERIVED. Plain Lean: subsets of sets (out of layer 5's texts: tools/mkrusets.py).
-/
import Derived.Test.YtmoilpkgoabopaaDoorSetPure
import Derived.WalkKit
namespace Go.Proofs.YtmoilpkgoabopaaDoor.S
open Go.RowKit
set_option maxRecDepth 8000

/-- how many ways there are to choose k of n -/
def bin : Nat → Nat → Nat
  | _, 0 => 1
  | 0, _ + 1 => 0
  | n + 1, k + 1 => bin n k + bin n (k + 1)
theorem bin_zero (n : Nat) : bin n 0 = 1 := by cases n <;> rfl
theorem bin_step (n k : Nat) : bin (n + 1) (k + 1) = bin n k + bin n (k + 1) := rfl
theorem bin_big : ∀ {n k : Nat}, n < k → bin n k = 0
  | _, 0, h => absurd h (Nat.not_lt_zero _)
  | 0, _ + 1, _ => rfl
  | n + 1, k + 1, h => by rw [bin_step, bin_big (show n < k by omega), bin_big (show n < k + 1 by omega)]
theorem bin_self : ∀ n, bin n n = 1
  | 0 => rfl
  | n + 1 => by rw [bin_step, bin_self n, bin_big (Nat.lt_succ_self n)]
theorem bin_mul : ∀ n k, (k + 1) * bin (n + 1) (k + 1) = (n + 1) * bin n k
  | n, 0 => by
    rw [bin_zero]
    induction n with
    | zero => rfl
    | succ n ih => rw [bin_step, bin_zero]; simp at ih ⊢; omega
  | 0, k + 1 => by rw [bin_step, bin_big (show 0 < k + 1 by omega), bin_big (show 0 < k + 1 + 1 by omega)]; simp
  | n + 1, k + 1 => by
    have h1 := bin_mul n k
    have h2 := bin_mul n (k + 1)
    rw [bin_step (n + 1) (k + 1), bin_step n k]
    rw [bin_step n k] at h1
    grind
theorem bin_symm : ∀ n k, k ≤ n → bin n (n - k) = bin n k
  | n, 0, _ => by rw [Nat.sub_zero, bin_self, bin_zero]
  | 0, k + 1, h => absurd h (by omega)
  | n + 1, k + 1, h => by
    rw [show n + 1 - (k + 1) = n - k by omega, bin_step]
    by_cases hk : k = n
    · subst hk; rw [Nat.sub_self, bin_zero, bin_self, bin_big (Nat.lt_succ_self k)]
    · have h1 := bin_symm n k (by omega)
      have h2 := bin_symm n (k + 1) (by omega)
      obtain ⟨d, hd⟩ : ∃ d, n - k = d + 1 := ⟨n - k - 1, by omega⟩
      rw [show n - (k + 1) = d by omega] at h2
      rw [hd] at h1 ⊢
      rw [bin_step, h1, h2]; omega
/-- one factor more -/
theorem bin_next (m i : Nat) : bin (m + i) i * (m + (i + 1)) / (i + 1) = bin (m + (i + 1)) (i + 1) := by
  have h := bin_mul (m + i) i
  rw [Nat.mul_comm (bin (m + i) i), show m + (i + 1) = m + i + 1 by omega, ← h, Nat.mul_div_cancel_left _ (by omega)]
theorem bin_up (m i : Nat) : bin (m + i) i ≤ bin (m + (i + 1)) (i + 1) := by
  rw [show m + (i + 1) = m + i + 1 by omega, bin_step]; omega
theorem bin_up_le (m : Nat) {i k : Nat} (h : i ≤ k) : bin (m + i) i ≤ bin (m + k) k := by
  induction k with
  | zero => have : i = 0 := by omega
            subst this; exact Nat.le_refl _
  | succ k ih =>
    by_cases e : i = k + 1
    · subst e; exact Nat.le_refl _
    · exact Nat.le_trans (ih (by omega)) (bin_up m k)
theorem bin_le_n (n k : Nat) : bin n k ≤ bin (n + 1) k := by
  cases k with
  | zero => rw [bin_zero, bin_zero]; exact Nat.le_refl _
  | succ k => rw [bin_step]; omega
theorem bin_le_nk (n k : Nat) : bin n k ≤ bin (n + 1) (k + 1) := by rw [bin_step]; omega
/-- what Choose answers -/
def cho (n : Nat) (k : Int) : Nat := if k < 0 then 0 else min (bin n k.toNat) 100000

/-! ### the subsets of one size -/
def szL (l : List Nat) : Nat → Nat → List Nat
  | _, 0 => [0]
  | 0, _ + 1 => []
  | n + 1, k + 1 => szL l n (k + 1) ++ (szL l n k).map (· + 2 ^ l.getD n 0)
theorem szL_zero (l : List Nat) (n : Nat) : szL l n 0 = [0] := by cases n <;> rfl
theorem szL_step (l : List Nat) (n k : Nat) : szL l (n + 1) (k + 1) = szL l n (k + 1) ++ (szL l n k).map (· + 2 ^ l.getD n 0) := rfl
theorem szL_len (l : List Nat) : ∀ n k, (szL l n k).length = bin n k
  | n, 0 => by rw [szL_zero, bin_zero]; rfl
  | 0, _ + 1 => rfl
  | n + 1, k + 1 => by rw [szL_step, bin_step, List.length_append, List.length_map, szL_len l n, szL_len l n]; omega
theorem szL_big (l : List Nat) {n k : Nat} (h : n < k) : szL l n k = [] := List.eq_nil_of_length_eq_zero (by rw [szL_len, bin_big h])
theorem sumP_more {l : List Nat} {n : Nat} (h : n < l.length) : sumP (l.take (n + 1)) = sumP (l.take n) + 2 ^ l.getD n 0 := by
  rw [List.take_succ_eq_append_getElem h, sumP_app, List.getD_eq_getElem?_getD, List.getElem?_eq_getElem h]; simp [sumP]
theorem szL_le (l : List Nat) : ∀ n k, n ≤ l.length → ∀ x ∈ szL l n k, x ≤ sumP (l.take n)
  | n, 0, _, x, hx => by rw [szL_zero] at hx; simp at hx; omega
  | 0, _ + 1, _, x, hx => by simp [szL] at hx
  | n + 1, k + 1, h, x, hx => by
    rw [szL_step, List.mem_append, List.mem_map] at hx
    rw [sumP_more (by omega)]
    rcases hx with hx | ⟨y, hy, rfl⟩
    · have := szL_le l n (k + 1) (by omega) x hx
      exact Nat.le_trans this (Nat.le_add_right _ _)
    · exact Nat.add_le_add_right (szL_le l n k (by omega) y hy) _
theorem sumP_take_le (l : List Nat) (n : Nat) : sumP (l.take n) ≤ sumP l := by
  have e := congrArg sumP (List.take_append_drop n l)
  rw [sumP_app] at e; omega

theorem and_bit (x y a b : Nat) (ha : a < 2) (hb : b < 2) : (2 * x + a) &&& (2 * y + b) = 2 * (x &&& y) + (a &&& b) := by
  have h1 : ((2 * x + a) &&& (2 * y + b)) / 2 = x &&& y := by rw [Nat.and_div_two, show (2 * x + a) / 2 = x by omega, show (2 * y + b) / 2 = y by omega]
  have h2 : ((2 * x + a) &&& (2 * y + b)) % 2 = a &&& b := by
    have := Nat.and_mod_two_pow (a := 2 * x + a) (b := 2 * y + b) (n := 1)
    rw [Nat.pow_one, show (2 * x + a) % 2 = a by omega, show (2 * y + b) % 2 = b by omega] at this
    exact this
  omega
theorem or_bit (x y a b : Nat) (ha : a < 2) (hb : b < 2) : (2 * x + a) ||| (2 * y + b) = 2 * (x ||| y) + (a ||| b) := by
  have h1 : ((2 * x + a) ||| (2 * y + b)) / 2 = x ||| y := by rw [Nat.or_div_two, show (2 * x + a) / 2 = x by omega, show (2 * y + b) / 2 = y by omega]
  have h2 : ((2 * x + a) ||| (2 * y + b)) % 2 = a ||| b := by
    have := Nat.or_mod_two_pow (a := 2 * x + a) (b := 2 * y + b) (n := 1)
    rw [Nat.pow_one, show (2 * x + a) % 2 = a by omega, show (2 * y + b) % 2 = b by omega] at this
    exact this
  omega
theorem and_ee (x y : Nat) : (2 * x) &&& (2 * y) = 2 * (x &&& y) := and_bit x y 0 0 (by omega) (by omega)
theorem and_eo (x y : Nat) : (2 * x) &&& (2 * y + 1) = 2 * (x &&& y) := and_bit x y 0 1 (by omega) (by omega)
theorem and_oe (x y : Nat) : (2 * x + 1) &&& (2 * y) = 2 * (x &&& y) := and_bit x y 1 0 (by omega) (by omega)
theorem and_oo (x y : Nat) : (2 * x + 1) &&& (2 * y + 1) = 2 * (x &&& y) + 1 := and_bit x y 1 1 (by omega) (by omega)
theorem or_ee (x y : Nat) : (2 * x) ||| (2 * y) = 2 * (x ||| y) := or_bit x y 0 0 (by omega) (by omega)
theorem or_eo (x y : Nat) : (2 * x) ||| (2 * y + 1) = 2 * (x ||| y) + 1 := or_bit x y 0 1 (by omega) (by omega)
theorem or_oe (x y : Nat) : (2 * x + 1) ||| (2 * y) = 2 * (x ||| y) + 1 := or_bit x y 1 0 (by omega) (by omega)
theorem or_oo (x y : Nat) : (2 * x + 1) ||| (2 * y + 1) = 2 * (x ||| y) + 1 := or_bit x y 1 1 (by omega) (by omega)
theorem halves (n : Nat) : ∃ t, n = 2 * t ∨ n = 2 * t + 1 := ⟨n / 2, by omega⟩

theorem cnt_e (k t : Nat) : cnt (k + 1) (2 * t) = cnt k t := by rw [cnt_succ, show 2 * t % 2 = 0 by omega, show 2 * t / 2 = t by omega]; omega
theorem cnt_o (k t : Nat) : cnt (k + 1) (2 * t + 1) = 1 + cnt k t := by rw [cnt_succ, show (2 * t + 1) % 2 = 1 by omega, show (2 * t + 1) / 2 = t by omega]

/-- the bits of m laid at the places of n's bits -/
def pd : Nat → Nat → Nat → Nat
  | 0, _, _ => 0
  | k + 1, n, m => if n % 2 = 1 then m % 2 + 2 * pd k (n / 2) (m / 2) else 2 * pd k (n / 2) m
theorem pd_e (k t m : Nat) : pd (k + 1) (2 * t) m = 2 * pd k t m := by rw [pd, if_neg (by omega), show 2 * t / 2 = t by omega]
theorem pd_o0 (k t m : Nat) : pd (k + 1) (2 * t + 1) (2 * m) = 2 * pd k t m := by
  rw [pd, if_pos (by omega), show (2 * t + 1) / 2 = t by omega, show 2 * m / 2 = m by omega, show 2 * m % 2 = 0 by omega]; omega
theorem pd_o1 (k t m : Nat) : pd (k + 1) (2 * t + 1) (2 * m + 1) = 2 * pd k t m + 1 := by
  rw [pd, if_pos (by omega), show (2 * t + 1) / 2 = t by omega, show (2 * m + 1) / 2 = m by omega, show (2 * m + 1) % 2 = 1 by omega]; omega
theorem pd_zero : ∀ k n, pd k n 0 = 0
  | 0, _ => rfl
  | k + 1, n => by
    obtain ⟨t, rfl | rfl⟩ := halves n
    · rw [pd_e, pd_zero k]
    · have := pd_o0 k t 0; rw [pd_zero k] at this; exact this
theorem pd_le : ∀ k n m, pd k n m ≤ n
  | 0, _, _ => Nat.zero_le _
  | k + 1, n, m => by
    obtain ⟨t, rfl | rfl⟩ := halves n
    · rw [pd_e]; have := pd_le k t m; omega
    · obtain ⟨j, rfl | rfl⟩ := halves m
      · rw [pd_o0]; have := pd_le k t j; omega
      · rw [pd_o1]; have := pd_le k t j; omega
theorem pd_and : ∀ k n m, pd k n m &&& n = pd k n m
  | 0, _, _ => Nat.zero_and _
  | k + 1, n, m => by
    obtain ⟨t, rfl | rfl⟩ := halves n
    · rw [pd_e, and_ee, pd_and k t m]
    · obtain ⟨j, rfl | rfl⟩ := halves m
      · rw [pd_o0, and_eo, pd_and k t j]
      · rw [pd_o1, and_oo, pd_and k t j]
theorem pow_s (c : Nat) : 2 ^ (1 + c) = 2 * 2 ^ c := by rw [Nat.add_comm, Nat.pow_succ, Nat.mul_comm]
theorem pow_p (c : Nat) : 0 < 2 ^ c := Nat.pow_pos (by omega)
/-- a mask of places and its rest -/
theorem pd_neg : ∀ k n m, n < 2 ^ k → m < 2 ^ cnt k n → pd k n (2 ^ cnt k n - 1 - m) + pd k n m = n
  | 0, n, m, h, _ => by have : n = 0 := by simpa using h
                        subst this; rfl
  | k + 1, n, m, h, hm => by
    rw [Nat.pow_succ] at h
    obtain ⟨t, rfl | rfl⟩ := halves n
    · rw [cnt_e] at hm ⊢
      rw [pd_e, pd_e]; have := pd_neg k t m (by omega) hm; omega
    · rw [cnt_o, pow_s] at hm ⊢
      obtain ⟨j, rfl | rfl⟩ := halves m
      · rw [show 2 * 2 ^ cnt k t - 1 - 2 * j = 2 * (2 ^ cnt k t - 1 - j) + 1 by omega, pd_o1, pd_o0]
        have := pd_neg k t j (by omega) (by omega); omega
      · rw [show 2 * 2 ^ cnt k t - 1 - (2 * j + 1) = 2 * (2 ^ cnt k t - 1 - j) by omega, pd_o0, pd_o1]
        have := pd_neg k t j (by omega) (by omega); omega
theorem pd_full (k n : Nat) (h : n < 2 ^ k) : pd k n (2 ^ cnt k n - 1) = n := by
  have := pd_neg k n 0 h (pow_p _)
  rw [pd_zero] at this; simpa using this
theorem pd_mono : ∀ k n a b, a < b → b < 2 ^ cnt k n → pd k n a < pd k n b
  | 0, n, a, b, h, hb => by have : cnt 0 n = 0 := rfl
                            rw [this] at hb; omega
  | k + 1, n, a, b, h, hb => by
    obtain ⟨t, rfl | rfl⟩ := halves n
    · rw [cnt_e] at hb
      rw [pd_e, pd_e]; have := pd_mono k t a b h hb; omega
    · rw [cnt_o, pow_s] at hb
      obtain ⟨x, rfl | rfl⟩ := halves a <;> obtain ⟨y, rfl | rfl⟩ := halves b
      · rw [pd_o0, pd_o0]; have := pd_mono k t x y (by omega) (by omega); omega
      · rw [pd_o0, pd_o1]
        by_cases e : x = y
        · subst e; omega
        · have := pd_mono k t x y (by omega) (by omega); omega
      · rw [pd_o1, pd_o0]; have := pd_mono k t x y (by omega) (by omega); omega
      · rw [pd_o1, pd_o1]; have := pd_mono k t x y (by omega) (by omega); omega
theorem pd_lt (k n m : Nat) (h : n < 2 ^ k) (hm : m + 1 < 2 ^ cnt k n) : pd k n m < n := by
  have := pd_mono k n m (2 ^ cnt k n - 1) (by omega) (by have := pow_p (cnt k n); omega)
  rwa [pd_full k n h] at this
/-- the complement within n -/
theorem pd_cmp : ∀ k K n m, k ≤ K → n < 2 ^ k → (2 ^ K - 1 - (n - pd k n m)) &&& n = pd k n m
  | 0, K, n, m, _, h => by have : n = 0 := by simpa using h
                           subst this; exact Nat.and_zero _
  | k + 1, 0, n, m, hk, _ => by omega
  | k + 1, K + 1, n, m, hk, h => by
    have hKK : 2 ^ k ≤ 2 ^ K := Nat.pow_le_pow_right (by omega) (by omega)
    have ih := fun t m (ht : t < 2 ^ k) => pd_cmp k K t m (by omega) ht
    rw [Nat.pow_succ] at h ⊢
    obtain ⟨t, rfl | rfl⟩ := halves n
    · have hl := pd_le k t m
      rw [pd_e, show 2 ^ K * 2 - 1 - (2 * t - 2 * pd k t m) = 2 * (2 ^ K - 1 - (t - pd k t m)) + 1 by omega, and_oe, ih t m (by omega)]
    · obtain ⟨j, rfl | rfl⟩ := halves m
      · have hl := pd_le k t j
        rw [pd_o0, show 2 ^ K * 2 - 1 - (2 * t + 1 - 2 * pd k t j) = 2 * (2 ^ K - 1 - (t - pd k t j)) by omega, and_eo, ih t j (by omega)]
      · have hl := pd_le k t j
        rw [pd_o1, show 2 ^ K * 2 - 1 - (2 * t + 1 - (2 * pd k t j + 1)) = 2 * (2 ^ K - 1 - (t - pd k t j)) + 1 by omega, and_oo, ih t j (by omega)]
theorem pd_orn : ∀ k K n m, k ≤ K → n < 2 ^ k → pd k n m ||| (2 ^ K - 1 - n) = 2 ^ K - 1 - (n - pd k n m)
  | 0, K, n, m, _, h => by have : n = 0 := by simpa using h
                           subst this; exact Nat.zero_or _
  | k + 1, 0, n, m, hk, _ => by omega
  | k + 1, K + 1, n, m, hk, h => by
    have hKK : 2 ^ k ≤ 2 ^ K := Nat.pow_le_pow_right (by omega) (by omega)
    have ih := fun t m (ht : t < 2 ^ k) => pd_orn k K t m (by omega) ht
    rw [Nat.pow_succ] at h ⊢
    obtain ⟨t, rfl | rfl⟩ := halves n
    · have hl := pd_le k t m
      rw [pd_e, show 2 ^ K * 2 - 1 - 2 * t = 2 * (2 ^ K - 1 - t) + 1 by omega, or_eo, ih t m (by omega)]; omega
    · obtain ⟨j, rfl | rfl⟩ := halves m
      · have hl := pd_le k t j
        rw [pd_o0, show 2 ^ K * 2 - 1 - (2 * t + 1) = 2 * (2 ^ K - 1 - t) by omega, or_ee, ih t j (by omega)]; omega
      · have hl := pd_le k t j
        rw [pd_o1, show 2 ^ K * 2 - 1 - (2 * t + 1) = 2 * (2 ^ K - 1 - t) by omega, or_oe, ih t j (by omega)]; omega
/-- the next subset -/
theorem pd_inc : ∀ k K n m, k ≤ K → n < 2 ^ k → m + 1 < 2 ^ cnt k n → (2 ^ K - (n - pd k n m)) &&& n = pd k n (m + 1)
  | 0, K, n, m, _, h, hm => by have : cnt 0 n = 0 := rfl
                               rw [this] at hm; omega
  | k + 1, 0, n, m, hk, _, _ => by omega
  | k + 1, K + 1, n, m, hk, h, hm => by
    have hKK : 2 ^ k ≤ 2 ^ K := Nat.pow_le_pow_right (by omega) (by omega)
    have ih := fun t m (ht : t < 2 ^ k) => pd_inc k K t m (by omega) ht
    have ihc := fun t m (ht : t < 2 ^ k) => pd_cmp k K t m (by omega) ht
    rw [Nat.pow_succ] at h ⊢
    obtain ⟨t, rfl | rfl⟩ := halves n
    · have hl := pd_le k t m
      rw [cnt_e] at hm
      rw [pd_e, pd_e, show 2 ^ K * 2 - (2 * t - 2 * pd k t m) = 2 * (2 ^ K - (t - pd k t m)) by omega, and_ee, ih t m (by omega) hm]
    · rw [cnt_o, pow_s] at hm
      obtain ⟨j, rfl | rfl⟩ := halves m
      · have hl := pd_le k t j
        rw [pd_o0, pd_o1, show 2 ^ K * 2 - (2 * t + 1 - 2 * pd k t j) = 2 * (2 ^ K - 1 - (t - pd k t j)) + 1 by omega, and_oo, ihc t j (by omega)]
      · have hl := pd_le k t j
        rw [pd_o1, show 2 * j + 1 + 1 = 2 * (j + 1) by omega, pd_o0, show 2 ^ K * 2 - (2 * t + 1 - (2 * pd k t j + 1)) = 2 * (2 ^ K - (t - pd k t j)) by omega, and_eo, ih t j (by omega) (by omega)]
/-- the lowest bit -/
def lb : Nat → Nat → Nat
  | 0, _ => 0
  | k + 1, m => if m % 2 = 1 then 1 else 2 * lb k (m / 2)
theorem lb_e (k m : Nat) : lb (k + 1) (2 * m) = 2 * lb k m := by rw [lb, if_neg (by omega), show 2 * m / 2 = m by omega]
theorem lb_o (k m : Nat) : lb (k + 1) (2 * m + 1) = 1 := by rw [lb, if_pos (by omega)]
theorem lb_le : ∀ k m, lb k m ≤ m
  | 0, _ => Nat.zero_le _
  | k + 1, m => by
    obtain ⟨t, rfl | rfl⟩ := halves m
    · rw [lb_e]; have := lb_le k t; omega
    · rw [lb_o]; omega
theorem lb_more : ∀ k m, m < 2 ^ k → lb (k + 1) m = lb k m
  | 0, m, h => by have : m = 0 := by simpa using h
                  subst this; rfl
  | k + 1, m, h => by
    rw [Nat.pow_succ] at h
    obtain ⟨t, rfl | rfl⟩ := halves m
    · rw [lb_e, lb_e, lb_more k t (by omega)]
    · rw [lb_o, lb_o]
theorem lb_and : ∀ k K m, k ≤ K → 0 < m → m < 2 ^ k → m &&& (2 ^ K - m) = lb k m
  | 0, K, m, _, h0, h => by simp at h; omega
  | k + 1, 0, m, hk, _, _ => by omega
  | k + 1, K + 1, m, hk, h0, h => by
    have hKK : 2 ^ k ≤ 2 ^ K := Nat.pow_le_pow_right (by omega) (by omega)
    rw [Nat.pow_succ] at h ⊢
    obtain ⟨t, rfl | rfl⟩ := halves m
    · rw [lb_e, show 2 ^ K * 2 - 2 * t = 2 * (2 ^ K - t) by omega, and_ee, lb_and k K t (by omega) (by omega) (by omega)]
    · rw [lb_o, show 2 ^ K * 2 - (2 * t + 1) = 2 * (2 ^ K - 1 - t) + 1 by omega, and_oo]
      have := Nat.and_comm t (2 ^ K - 1 - t)
      have h2 : t &&& (2 ^ K - 1 - t) = 0 := by
        apply Nat.eq_of_testBit_eq
        intro i
        rw [Nat.testBit_and, show 2 ^ K - 1 - t = 2 ^ K - (t + 1) by omega, Nat.testBit_two_pow_sub_succ (by omega), Nat.zero_testBit]
        cases t.testBit i <;> simp
      rw [h2]
theorem pd_pos : ∀ k n m, 0 < m → m < 2 ^ cnt k n → 0 < pd k n m := fun k n m h hm => by
  have := pd_mono k n 0 m h hm
  rw [pd_zero] at this; exact this
theorem cnt_le_pow (k n : Nat) : 2 ^ cnt k n ≤ 2 ^ k := Nat.pow_le_pow_right (by omega) (cnt_le k n)
/-- the carry of the lowest member -/
theorem pd_car : ∀ k K n m, k ≤ K → n < 2 ^ k → 0 < m → m + lb k m < 2 ^ cnt k n →
    lb k (pd k n m) ≤ n - pd k n m ∧ (2 ^ K - 1 - (n - pd k n m) + lb k (pd k n m)) &&& n = pd k n (m + lb k m)
  | 0, K, n, m, _, h, h0, hm => by have : cnt 0 n = 0 := rfl
                                   rw [this] at hm; omega
  | k + 1, 0, n, m, hk, _, _, _ => by omega
  | k + 1, K + 1, n, m, hk, h, h0, hm => by
    have hKK : 2 ^ k ≤ 2 ^ K := Nat.pow_le_pow_right (by omega) (by omega)
    have ih := fun t m (ht : t < 2 ^ k) => pd_car k K t m (by omega) ht
    have ihi := fun t m (ht : t < 2 ^ k) => pd_inc k K t m (by omega) ht
    rw [Nat.pow_succ] at h ⊢
    obtain ⟨t, rfl | rfl⟩ := halves n
    · have hl := pd_le k t m
      rw [cnt_e] at hm
      have hcp := cnt_le_pow k t
      rw [lb_more k m (by omega)] at hm ⊢
      obtain ⟨i1, i2⟩ := ih t m (by omega) h0 hm
      rw [pd_e, pd_e, lb_e]
      refine ⟨by omega, ?_⟩
      rw [show 2 ^ K * 2 - 1 - (2 * t - 2 * pd k t m) + 2 * lb k (pd k t m) = 2 * (2 ^ K - 1 - (t - pd k t m) + lb k (pd k t m)) + 1 by omega, and_oe, i2]
    · rw [cnt_o, pow_s] at hm
      obtain ⟨j, rfl | rfl⟩ := halves m
      · have hl := pd_le k t j
        rw [lb_e] at hm ⊢
        obtain ⟨i1, i2⟩ := ih t j (by omega) (by omega) (by omega)
        rw [pd_o0, lb_e, show 2 * j + 2 * lb k j = 2 * (j + lb k j) by omega, pd_o0]
        refine ⟨by omega, ?_⟩
        rw [show 2 ^ K * 2 - 1 - (2 * t + 1 - 2 * pd k t j) + 2 * lb k (pd k t j) = 2 * (2 ^ K - 1 - (t - pd k t j) + lb k (pd k t j)) by omega, and_eo, i2]
      · have hl := pd_le k t j
        rw [lb_o] at hm ⊢
        have hlt := pd_lt k t j (by omega) (by omega)
        rw [pd_o1, lb_o, show 2 * j + 1 + 1 = 2 * (j + 1) by omega, pd_o0]
        refine ⟨by omega, ?_⟩
        rw [show 2 ^ K * 2 - 1 - (2 * t + 1 - (2 * pd k t j + 1)) + 1 = 2 * (2 ^ K - (t - pd k t j)) by omega, and_eo, ihi t j (by omega) (by omega)]
theorem pd_cnt : ∀ k n m, m < 2 ^ cnt k n → cnt k (pd k n m) = cnt k m
  | 0, _, _, _ => rfl
  | k + 1, n, m, hm => by
    obtain ⟨t, rfl | rfl⟩ := halves n
    · rw [cnt_e] at hm
      have hcp := cnt_le_pow k t
      rw [pd_e, cnt_e, pd_cnt k t m hm, cnt_more k m (by omega)]
    · rw [cnt_o, pow_s] at hm
      obtain ⟨j, rfl | rfl⟩ := halves m
      · rw [pd_o0, cnt_e, cnt_e, pd_cnt k t j (by omega)]
      · rw [pd_o1, cnt_o, cnt_o, pd_cnt k t j (by omega)]
theorem pd_or : ∀ k n a b, pd k n a ||| pd k n b = pd k n (a ||| b)
  | 0, _, _, _ => by simp [pd]
  | k + 1, n, a, b => by
    obtain ⟨t, rfl | rfl⟩ := halves n
    · rw [pd_e, pd_e, pd_e, or_ee, pd_or k t a b]
    · obtain ⟨x, rfl | rfl⟩ := halves a <;> obtain ⟨y, rfl | rfl⟩ := halves b
      · rw [or_ee, pd_o0, pd_o0, pd_o0, or_ee, pd_or k t x y]
      · rw [or_eo, pd_o0, pd_o1, pd_o1, or_eo, pd_or k t x y]
      · rw [or_oe, pd_o1, pd_o0, pd_o1, or_oe, pd_or k t x y]
      · rw [or_oo, pd_o1, pd_o1, pd_o1, or_oo, pd_or k t x y]

theorem has_e0 (t : Nat) : has (2 * t) 0 = false := by rw [has_div, Nat.pow_zero, Nat.div_one, show 2 * t % 2 = 0 by omega]; rfl
theorem has_o0 (t : Nat) : has (2 * t + 1) 0 = true := by rw [has_div, Nat.pow_zero, Nat.div_one, show (2 * t + 1) % 2 = 1 by omega]; rfl
theorem has_es (t i : Nat) : has (2 * t) (i + 1) = has t i := by rw [has_div, has_div, Nat.pow_succ, Nat.mul_comm (2 ^ i) 2, ← Nat.div_div_eq_div_mul, show 2 * t / 2 = t by omega]
theorem has_os (t i : Nat) : has (2 * t + 1) (i + 1) = has t i := by rw [has_div, has_div, Nat.pow_succ, Nat.mul_comm (2 ^ i) 2, ← Nat.div_div_eq_div_mul, show (2 * t + 1) / 2 = t by omega]
theorem mem_e (t k : Nat) : mem (2 * t) (k + 1) = (mem t k).map (· + 1) := by
  rw [mem, List.range_succ_eq_map, List.filter_cons_of_neg (by rw [has_e0]; simp), List.filter_map, mem]
  congr 1
  apply List.filter_congr
  intro i _
  exact has_es t i
theorem mem_o (t k : Nat) : mem (2 * t + 1) (k + 1) = 0 :: (mem t k).map (· + 1) := by
  rw [mem, List.range_succ_eq_map, List.filter_cons_of_pos (has_o0 t), List.filter_map, mem]
  congr 2
  apply List.filter_congr
  intro i _
  exact has_os t i
theorem mem_head : ∀ k n i r, mem n k = i :: r → ∃ q, n = 2 ^ i * (2 * q + 1)
  | 0, n, i, r, h => by simp [mem] at h
  | k + 1, n, i, r, h => by
    obtain ⟨t, rfl | rfl⟩ := halves n
    · rw [mem_e] at h
      cases hm : mem t k with
      | nil => rw [hm] at h; simp at h
      | cons j s =>
        rw [hm] at h
        simp at h
        obtain ⟨q, hq⟩ := mem_head k t j s hm
        refine ⟨q, ?_⟩
        rw [← h.1, Nat.pow_succ, hq]; grind
    · rw [mem_o] at h
      simp at h
      exact ⟨t, by rw [← h.1]; simp⟩
theorem mem_nil : ∀ k n, n < 2 ^ k → mem n k = [] → n = 0
  | 0, n, h, _ => by simpa using h
  | k + 1, n, h, hm => by
    rw [Nat.pow_succ] at h
    obtain ⟨t, rfl | rfl⟩ := halves n
    · rw [mem_e] at hm
      have := mem_nil k t (by omega) (by simpa using hm); omega
    · rw [mem_o] at hm; simp at hm
theorem mem_zero (k : Nat) : mem 0 k = [] := by
  induction k with
  | zero => rfl
  | succ k ih => have := mem_e 0 k; rw [ih] at this; exact this
/-- taking the least number away -/
theorem mem_tail : ∀ k n i r, n < 2 ^ k → mem n k = i :: r → 2 ^ i ≤ n ∧ n &&& (n - 1) = n - 2 ^ i ∧ mem (n - 2 ^ i) k = r
  | 0, n, i, r, _, h => by simp [mem] at h
  | k + 1, n, i, r, hn, h => by
    rw [Nat.pow_succ] at hn
    obtain ⟨t, rfl | rfl⟩ := halves n
    · rw [mem_e] at h
      cases hm : mem t k with
      | nil => rw [hm] at h; simp at h
      | cons j s =>
        rw [hm] at h
        simp at h
        obtain ⟨h1, h2, h3⟩ := mem_tail k t j s (by omega) hm
        have hp := pow_p j
        rw [← h.1, Nat.pow_succ]
        refine ⟨by omega, ?_, ?_⟩
        · rw [show 2 * t - 1 = 2 * (t - 1) + 1 by omega, and_eo, h2]; omega
        · rw [show 2 * t - 2 ^ j * 2 = 2 * (t - 2 ^ j) by omega, mem_e, h3, ← h.2]
    · rw [mem_o] at h
      simp at h
      rw [← h.1, Nat.pow_zero, show 2 * t + 1 - 1 = 2 * t by omega, and_oe, Nat.and_self, mem_e]
      exact ⟨by omega, rfl, h.2⟩
/-- the lowest bit of a number -/
theorem low_and : ∀ i q K, 2 ^ i * (2 * q + 1) < 2 ^ K → (2 ^ i * (2 * q + 1)) &&& (2 ^ K - 2 ^ i * (2 * q + 1)) = 2 ^ i
  | _, _, 0, h => by
    rename_i i q
    have := pow_p i
    have := Nat.mul_le_mul_left (2 ^ i) (show 1 ≤ 2 * q + 1 by omega)
    rw [Nat.pow_zero] at h; omega
  | 0, q, K + 1, h => by
    rw [Nat.pow_zero, Nat.one_mul] at h ⊢
    have := lb_and (K + 1) (K + 1) (2 * q + 1) (Nat.le_refl _) (by omega) h
    rw [lb_o] at this
    exact this
  | i + 1, q, K + 1, h => by
    have e : 2 ^ (i + 1) * (2 * q + 1) = 2 * (2 ^ i * (2 * q + 1)) := by rw [Nat.pow_succ]; grind
    rw [e] at h ⊢
    rw [Nat.pow_succ] at h
    rw [Nat.pow_succ 2 K, show 2 ^ K * 2 - 2 * (2 ^ i * (2 * q + 1)) = 2 * (2 ^ K - 2 ^ i * (2 * q + 1)) by omega, and_ee, low_and i q K (by omega), Nat.pow_succ, Nat.mul_comm]
/-- one more of the lowest members -/
theorem low_step : ∀ k n j, n < 2 ^ k → j < cnt k n → (n - pd k n (2 ^ j - 1)) &&& (n - pd k n (2 ^ j - 1) - 1) = n - pd k n (2 ^ (j + 1) - 1)
  | 0, n, j, _, h => by have : cnt 0 n = 0 := rfl
                        omega
  | k + 1, n, j, hn, h => by
    rw [Nat.pow_succ] at hn
    obtain ⟨t, rfl | rfl⟩ := halves n
    · rw [cnt_e] at h
      have h1 := low_step k t j (by omega) h
      have hc : 2 ^ j ≤ 2 ^ cnt k t := Nat.pow_le_pow_right (by omega) (by omega)
      have hc2 : 2 ^ (j + 1) ≤ 2 ^ cnt k t := Nat.pow_le_pow_right (by omega) (by omega)
      have hp := pow_p j
      have hlt := pd_lt k t (2 ^ j - 1) (by omega) (by rw [Nat.pow_succ] at hc2; omega)
      have hl2 := pd_le k t (2 ^ (j + 1) - 1)
      rw [pd_e, pd_e, show 2 * t - 2 * pd k t (2 ^ j - 1) - 1 = 2 * (t - pd k t (2 ^ j - 1) - 1) + 1 by omega, show 2 * t - 2 * pd k t (2 ^ j - 1) = 2 * (t - pd k t (2 ^ j - 1)) by omega, and_eo, h1]; omega
    · rw [cnt_o] at h
      have hl0 := pd_le k t (2 ^ j - 1)
      cases j with
      | zero =>
        have hz := pd_zero (k + 1) (2 * t + 1)
        have h1 := pd_o1 k t 0
        rw [pd_zero] at h1
        rw [show 2 ^ 0 - 1 = 0 from rfl, hz, show 2 ^ (0 + 1) - 1 = 2 * 0 + 1 from rfl, h1, show 2 * t + 1 - 0 - 1 = 2 * t by omega, show 2 * t + 1 - 0 = 2 * t + 1 by omega, and_oe, Nat.and_self]; omega
      | succ j =>
        have h1 := low_step k t j (by omega) (by omega)
        have hp := pow_p j
        have hp1 : 2 ^ (j + 1) - 1 = 2 * (2 ^ j - 1) + 1 := by rw [Nat.pow_succ]; omega
        have hp2 : 2 ^ (j + 1 + 1) - 1 = 2 * (2 ^ (j + 1) - 1) + 1 := by rw [Nat.pow_succ 2 (j + 1)]; have := pow_p (j + 1); omega
        have hc2 : 2 ^ (j + 1) ≤ 2 ^ cnt k t := Nat.pow_le_pow_right (by omega) (by omega)
        have hlt := pd_lt k t (2 ^ j - 1) (by omega) (by rw [Nat.pow_succ] at hc2; omega)
        have hl2 := pd_le k t (2 ^ (j + 1) - 1)
        rw [hp2, pd_o1]
        rw [show 2 ^ (j + 1) - 1 = 2 * (2 ^ j - 1) + 1 from hp1, pd_o1]
        rw [← hp1] at *
        rw [show 2 * t + 1 - (2 * pd k t (2 ^ j - 1) + 1) - 1 = 2 * (t - pd k t (2 ^ j - 1) - 1) + 1 by omega, show 2 * t + 1 - (2 * pd k t (2 ^ j - 1) + 1) = 2 * (t - pd k t (2 ^ j - 1)) by omega, and_eo, h1]; omega
/-- a further bit is laid at the next member -/
theorem pd_add : ∀ k n m j, m < 2 ^ j → j < cnt k n → pd k n (m + 2 ^ j) = pd k n m + 2 ^ (mem n k).getD j 0
  | 0, n, m, j, _, h => by have : cnt 0 n = 0 := rfl
                           omega
  | k + 1, n, m, j, hm, h => by
    obtain ⟨t, rfl | rfl⟩ := halves n
    · rw [cnt_e] at h
      rw [pd_e, pd_e, pd_add k t m j hm h, mem_e]
      have hlen : j < (mem t k).length := by
        have hh : ∀ k t, (mem t k).length = cnt k t := by
          intro k
          induction k with
          | zero => intro t; rfl
          | succ k ih =>
            intro t
            obtain ⟨u, rfl | rfl⟩ := halves t
            · rw [mem_e, cnt_e, List.length_map, ih]
            · rw [mem_o, cnt_o, List.length_cons, List.length_map, ih]; omega
        rw [hh]; exact h
      rw [List.getD_eq_getElem?_getD, List.getD_eq_getElem?_getD, List.getElem?_map, List.getElem?_eq_getElem hlen]
      simp [Nat.pow_succ]; omega
    · rw [cnt_o] at h
      cases j with
      | zero =>
        have : m = 0 := by simpa using hm
        subst this
        have h1 := pd_o1 k t 0
        rw [pd_zero] at h1
        rw [show 0 + 2 ^ 0 = 2 * 0 + 1 from rfl, h1, pd_zero, mem_o]; rfl
      | succ j =>
        have hlen : j < (mem t k).length := by
          have hh : ∀ k t, (mem t k).length = cnt k t := by
            intro k
            induction k with
            | zero => intro t; rfl
            | succ k ih =>
              intro t
              obtain ⟨u, rfl | rfl⟩ := halves t
              · rw [mem_e, cnt_e, List.length_map, ih]
              · rw [mem_o, cnt_o, List.length_cons, List.length_map, ih]; omega
          rw [hh]; omega
        have hg : ((mem (2 * t + 1) (k + 1)).getD (j + 1) 0) = (mem t k).getD j 0 + 1 := by
          rw [mem_o, List.getD_eq_getElem?_getD, List.getD_eq_getElem?_getD, List.getElem?_cons_succ, List.getElem?_map, List.getElem?_eq_getElem hlen]; rfl
        rw [hg, Nat.pow_succ, Nat.pow_succ]
        obtain ⟨x, rfl | rfl⟩ := halves m
        · rw [show 2 * x + 2 ^ j * 2 = 2 * (x + 2 ^ j) by omega, pd_o0, pd_o0, pd_add k t x j (by rw [Nat.pow_succ] at hm; omega) (by omega)]; omega
        · rw [show 2 * x + 1 + 2 ^ j * 2 = 2 * (x + 2 ^ j) + 1 by omega, pd_o1, pd_o1, pd_add k t x j (by rw [Nat.pow_succ] at hm; omega) (by omega)]; omega

theorem mem_length : ∀ k n, (mem n k).length = cnt k n
  | 0, _ => rfl
  | k + 1, n => by
    obtain ⟨t, rfl | rfl⟩ := halves n
    · rw [mem_e, cnt_e, List.length_map, mem_length k t]
    · rw [mem_o, cnt_o, List.length_cons, List.length_map, mem_length k t]; omega
theorem members_cnt (n : Nat) : (members n).length = size n := mem_length 63 n

/-! ### all subsets -/
theorem range_double (p : Nat) : List.range (p + p) = List.range p ++ (List.range p).map (· + p) := by
  rw [List.range_add]; congr 1; apply List.map_congr_left; intro i _; omega
theorem subsL_pd (n : Nat) : ∀ j, j ≤ size n → subsL [0] ((members n).take j) = (List.range (2 ^ j)).map (pd 63 n)
  | 0, _ => by rw [List.take_zero, Nat.pow_zero]; show [0] = [pd 63 n 0]; rw [pd_zero]
  | j + 1, h => by
    have hl : j < (members n).length := by rw [members_cnt]; omega
    rw [List.take_succ_eq_append_getElem hl, subsL_snoc, subsL_pd n j (by omega), Nat.pow_succ, Nat.mul_two, range_double, List.map_append, List.map_map, List.map_map]
    congr 1
    apply List.map_congr_left
    intro m hm
    rw [List.mem_range] at hm
    show pd 63 n m + 2 ^ (members n)[j] = pd 63 n (m + 2 ^ j)
    rw [pd_add 63 n m j hm h]
    congr 2
    rw [List.getD_eq_getElem?_getD]
    show _ = ((members n)[j]?).getD 0
    rw [List.getElem?_eq_getElem hl]; rfl
theorem subsets_pd (n : Nat) : subsL [0] (members n) = (List.range (2 ^ size n)).map (pd 63 n) := by
  have := subsL_pd n (size n) (Nat.le_refl _)
  rwa [List.take_of_length_le (by rw [members_cnt]; exact Nat.le_refl _)] at this

/-! ### subsets of one size -/
/-- the numbers of n bits with k of them set, ascending -/
def gz : Nat → Nat → List Nat
  | _, 0 => [0]
  | 0, _ + 1 => []
  | n + 1, k + 1 => gz n (k + 1) ++ (gz n k).map (· + 2 ^ n)
theorem gz_zero (n : Nat) : gz n 0 = [0] := by cases n <;> rfl
theorem gz_step (n k : Nat) : gz (n + 1) (k + 1) = gz n (k + 1) ++ (gz n k).map (· + 2 ^ n) := rfl
theorem gz_len : ∀ n k, (gz n k).length = bin n k
  | n, 0 => by rw [gz_zero, bin_zero]; rfl
  | 0, _ + 1 => rfl
  | n + 1, k + 1 => by rw [gz_step, bin_step, List.length_append, List.length_map, gz_len n, gz_len n]; omega
theorem gz_lt : ∀ n k, ∀ x ∈ gz n k, x < 2 ^ n
  | n, 0, x, hx => by rw [gz_zero] at hx; simp at hx; subst hx; exact pow_p n
  | 0, _ + 1, x, hx => by simp [gz] at hx
  | n + 1, k + 1, x, hx => by
    rw [gz_step, List.mem_append, List.mem_map] at hx
    rw [Nat.pow_succ]
    rcases hx with hx | ⟨y, hy, rfl⟩
    · have := gz_lt n (k + 1) x hx; omega
    · have := gz_lt n k y hy; omega
theorem cnt_top : ∀ k n x, x < 2 ^ n → n < k → cnt k (x + 2 ^ n) = cnt k x + 1
  | 0, n, x, _, h => by omega
  | k + 1, 0, x, hx, _ => by
    have : x = 0 := by simpa using hx
    subst this
    rw [show 0 + 2 ^ 0 = 2 * 0 + 1 from rfl, cnt_o, cnt_zero, cnt_zero]
  | k + 1, n + 1, x, hx, h => by
    rw [Nat.pow_succ] at hx ⊢
    obtain ⟨t, rfl | rfl⟩ := halves x
    · rw [show 2 * t + 2 ^ n * 2 = 2 * (t + 2 ^ n) by omega, cnt_e, cnt_e, cnt_top k n t (by omega) (by omega)]
    · rw [show 2 * t + 1 + 2 ^ n * 2 = 2 * (t + 2 ^ n) + 1 by omega, cnt_o, cnt_o, cnt_top k n t (by omega) (by omega)]; omega
theorem gz_cnt : ∀ n k, n ≤ 63 → ∀ x ∈ gz n k, cnt 63 x = k
  | n, 0, _, x, hx => by rw [gz_zero] at hx; simp at hx; subst hx; exact cnt_zero 63
  | 0, _ + 1, _, x, hx => by simp [gz] at hx
  | n + 1, k + 1, h, x, hx => by
    rw [gz_step, List.mem_append, List.mem_map] at hx
    rcases hx with hx | ⟨y, hy, rfl⟩
    · exact gz_cnt n (k + 1) (by omega) x hx
    · rw [cnt_top 63 n y (gz_lt n k y hy) (by omega), gz_cnt n k (by omega) y hy]
theorem szL_pd (n : Nat) : ∀ j k, j ≤ size n → szL (members n) j k = (gz j k).map (pd 63 n)
  | j, 0, _ => by rw [szL_zero, gz_zero]; show [0] = [pd 63 n 0]; rw [pd_zero]
  | 0, k + 1, _ => rfl
  | j + 1, k + 1, h => by
    rw [szL_step, gz_step, List.map_append, szL_pd n j (k + 1) (by omega), szL_pd n j k (by omega), List.map_map, List.map_map]
    congr 1
    apply List.map_congr_left
    intro m hm
    show pd 63 n m + _ = pd 63 n (m + 2 ^ j)
    rw [pd_add 63 n m j (gz_lt j k m hm) h]; rfl

/-- the number behind a in its list -/
def nxt (a : Nat) : Nat := (a + lb 63 a) ||| (2 ^ (cnt 63 a - cnt 63 (a + lb 63 a)) - 1)
/-- b stands right behind a -/
def Nx (n a b : Nat) : Prop := 0 < a ∧ a + lb 63 a < 2 ^ n ∧ nxt a = b ∧ a < b
/-- each of a list stands right behind the one before it -/
def Seq (R : Nat → Nat → Prop) : List Nat → Prop
  | [] => True
  | [_] => True
  | a :: b :: l => R a b ∧ Seq R (b :: l)
theorem Seq.tail {R : Nat → Nat → Prop} {a : Nat} {l : List Nat} (h : Seq R (a :: l)) : Seq R l := by
  cases l with
  | nil => trivial
  | cons b l => exact h.2
theorem Seq.app {R : Nat → Nat → Prop} : ∀ {l m : List Nat}, Seq R l → Seq R m → (∀ a b, l.getLast? = some a → m.head? = some b → R a b) → Seq R (l ++ m)
  | [], m, _, hm, _ => hm
  | [a], [], _, _, _ => trivial
  | [a], b :: m, _, hm, h => ⟨h a b rfl rfl, hm⟩
  | a :: c :: l, m, hl, hm, h => ⟨hl.1, Seq.app hl.2 hm (fun x y hx hy => h x y (by rw [List.getLast?_cons_cons]; exact hx) hy)⟩
theorem Seq.map {R S : Nat → Nat → Prop} {f : Nat → Nat} : ∀ {l : List Nat}, (∀ a ∈ l, ∀ b ∈ l, R a b → S (f a) (f b)) → Seq R l → Seq S (l.map f)
  | [], _, _ => trivial
  | [_], _, _ => trivial
  | a :: b :: l, h, hl => ⟨h a (by simp) b (by simp) hl.1, Seq.map (l := b :: l) (fun x hx y hy => h x (by simp at hx ⊢; right; exact hx) y (by simp at hy ⊢; right; exact hy)) hl.2⟩
theorem Seq.mono {R S : Nat → Nat → Prop} : ∀ {l : List Nat}, (∀ a b, R a b → S a b) → Seq R l → Seq S l
  | [], _, _ => trivial
  | [_], _, _ => trivial
  | _ :: b :: l, h, hl => ⟨h _ _ hl.1, Seq.mono (l := b :: l) h hl.2⟩
theorem Seq.at {R : Nat → Nat → Prop} : ∀ {l : List Nat} {i : Nat}, Seq R l → i + 1 < l.length → R (l.getD i 0) (l.getD (i + 1) 0)
  | [], _, _, h => by simp at h
  | [_], _, _, h => by simp at h
  | a :: b :: l, 0, hl, _ => hl.1
  | a :: b :: l, i + 1, hl, h => Seq.at (l := b :: l) hl.2 (by simpa using h)
theorem lb_top : ∀ k n a, a < 2 ^ n → 0 < a → lb k (a + 2 ^ n) = lb k a
  | 0, _, _, _, _ => rfl
  | k + 1, 0, a, h, h0 => by have : a = 0 := by simpa using h
                             omega
  | k + 1, n + 1, a, h, h0 => by
    rw [Nat.pow_succ] at h ⊢
    obtain ⟨t, rfl | rfl⟩ := halves a
    · rw [show 2 * t + 2 ^ n * 2 = 2 * (t + 2 ^ n) by omega, lb_e, lb_e, lb_top k n t (by omega) (by omega)]
    · rw [show 2 * t + 1 + 2 ^ n * 2 = 2 * (t + 2 ^ n) + 1 by omega, lb_o, lb_o]
theorem or_top (n x c : Nat) (hx : x < 2 ^ n) (hc : c < 2 ^ n) : (x + 2 ^ n) ||| c = (x ||| c) + 2 ^ n := by
  have h1 := Nat.two_pow_add_eq_or_of_lt hx 1
  have hxc : x ||| c < 2 ^ n := Nat.or_lt_two_pow hx hc
  have h2 := Nat.two_pow_add_eq_or_of_lt hxc 1
  rw [Nat.mul_one] at h1 h2
  rw [Nat.add_comm x, h1, Nat.or_assoc, ← h2, Nat.add_comm]
theorem Nx.top {n a b : Nat} (hn : n < 63) (ha : a < 2 ^ n) (h : Nx n a b) : Nx (n + 1) (a + 2 ^ n) (b + 2 ^ n) := by
  obtain ⟨h0, h1, h2, h3⟩ := h
  have hl := lb_top 63 n a ha h0
  have hp := pow_p n
  refine ⟨by omega, by rw [hl, Nat.pow_succ]; omega, ?_, by omega⟩
  rw [nxt, hl, show a + 2 ^ n + lb 63 a = a + lb 63 a + 2 ^ n by omega, cnt_top 63 n a ha hn, cnt_top 63 n _ h1 hn]
  rw [nxt] at h2
  have hc : cnt 63 a + 1 - (cnt 63 (a + lb 63 a) + 1) = cnt 63 a - cnt 63 (a + lb 63 a) := by omega
  have hcn : ∀ m a, a < 2 ^ m → cnt 63 a ≤ m := by
    have : ∀ k m a, a < 2 ^ m → cnt k a ≤ m := by
      intro k
      induction k with
      | zero => intro m a _; exact Nat.zero_le _
      | succ k ih =>
        intro m a hm
        cases m with
        | zero => have : a = 0 := by simpa using hm
                  subst this; rw [cnt_zero]; exact Nat.le_refl _
        | succ m =>
          rw [Nat.pow_succ] at hm
          obtain ⟨t, rfl | rfl⟩ := halves a
          · rw [cnt_e]; have := ih m t (by omega); omega
          · rw [cnt_o]; have := ih m t (by omega); omega
    exact this 63
  have hm := hcn n a ha
  have hcl : 2 ^ (cnt 63 a - cnt 63 (a + lb 63 a)) ≤ 2 ^ n := Nat.pow_le_pow_right (by omega) (by omega)
  rw [hc, or_top n _ _ h1 (by have := pow_p (cnt 63 a - cnt 63 (a + lb 63 a)); omega), h2]
/-- the last of a list -/
def lst (n k : Nat) : Nat := (2 ^ k - 1) * 2 ^ (n - k)
theorem gz_head : ∀ n k, k ≤ n → (gz n k).head? = some (2 ^ k - 1)
  | n, 0, _ => by rw [gz_zero]; rfl
  | 0, k + 1, h => by omega
  | n + 1, k + 1, h => by
    rw [gz_step]
    by_cases e : k = n
    · subst e
      have : gz k (k + 1) = [] := List.eq_nil_of_length_eq_zero (by rw [gz_len, bin_big (Nat.lt_succ_self k)])
      rw [this, List.nil_append, List.head?_map, gz_head k k (Nat.le_refl _)]
      show some (2 ^ k - 1 + 2 ^ k) = _
      rw [Nat.pow_succ]; have := pow_p k; congr 1; omega
    · have h1 := gz_head n (k + 1) (by omega)
      cases hg : gz n (k + 1) with
      | nil => rw [hg] at h1; simp at h1
      | cons a l => rw [hg] at h1; rw [List.cons_append]; exact h1
theorem gz_last : ∀ n k, k ≤ n → (gz n k).getLast? = some (lst n k)
  | n, 0, _ => by rw [gz_zero, lst]; simp
  | 0, k + 1, h => by omega
  | n + 1, k + 1, h => by
    have h1 := gz_last n k (by omega)
    rw [gz_step, List.getLast?_append, List.getLast?_map, h1]
    show some (lst n k + 2 ^ n) = _
    rw [lst, lst, show n + 1 - (k + 1) = n - k by omega, Nat.pow_succ]
    obtain ⟨d, hd⟩ : ∃ d, n = k + d := ⟨n - k, by omega⟩
    subst hd
    rw [show k + d - k = d by omega, Nat.pow_add]
    have := pow_p k
    congr 1
    obtain ⟨q, hq⟩ : ∃ q, 2 ^ k = q + 1 := ⟨2 ^ k - 1, by omega⟩
    rw [hq, show q + 1 - 1 = q by omega, show (q + 1) * 2 - 1 = q + (q + 1) by omega]; grind
theorem lb_pow : ∀ k d q, d < k → lb k ((2 * q + 1) * 2 ^ d) = 2 ^ d
  | 0, _, _, h => by omega
  | k + 1, 0, q, _ => by rw [Nat.pow_zero, Nat.mul_one, lb_o]
  | k + 1, d + 1, q, h => by
    rw [Nat.pow_succ, show (2 * q + 1) * (2 ^ d * 2) = 2 * ((2 * q + 1) * 2 ^ d) by rw [← Nat.mul_assoc, Nat.mul_comm]; , lb_e, lb_pow k d q (by omega), Nat.mul_comm]
theorem cnt_shift : ∀ k d a, cnt (k + d) (a * 2 ^ d) = cnt k a
  | k, 0, a => by rw [Nat.pow_zero, Nat.mul_one]; rfl
  | k, d + 1, a => by
    rw [Nat.pow_succ, show a * (2 ^ d * 2) = 2 * (a * 2 ^ d) by rw [← Nat.mul_assoc, Nat.mul_comm], ← Nat.add_assoc, cnt_e, cnt_shift k d a]
theorem cnt_ones : ∀ k c, c ≤ k → cnt k (2 ^ c - 1) = c
  | k, 0, _ => cnt_zero k
  | 0, c + 1, h => by omega
  | k + 1, c + 1, h => by
    have := pow_p c
    rw [Nat.pow_succ, show 2 ^ c * 2 - 1 = 2 * (2 ^ c - 1) + 1 by omega, cnt_o, cnt_ones k c (by omega)]; omega
theorem gz_midc (k d a : Nat) (h : k + d < 62) (ha : a = (2 * (2 ^ k - 1) + 1) * 2 ^ d) : cnt 63 a = k + 1 := by
  have h1 := cnt_shift (63 - d) d (2 ^ (k + 1) - 1)
  have hpk := pow_p k
  have h2 : (2 ^ (k + 1) - 1) * 2 ^ d = a := by rw [ha, Nat.pow_succ, show 2 ^ k * 2 - 1 = 2 * (2 ^ k - 1) + 1 by omega]
  rw [show 63 - d + d = 63 by omega, h2, cnt_ones (63 - d) (k + 1) (by omega)] at h1
  exact h1
theorem gz_mids (n : Nat) (h : n < 63) : cnt 63 (2 ^ n) = 1 := by
  have h1 := cnt_top 63 n 0 (pow_p n) h
  rw [Nat.zero_add] at h1
  rw [h1, cnt_zero 63]
theorem gz_mid (k d a b : Nat) (h : k + 1 + d + 1 ≤ 63) (hla : lst (k + 1 + d) (k + 1) = a) (hhb : 2 ^ k - 1 + 2 ^ (k + 1 + d) = b) : Nx (k + 1 + d + 1) a b := by
  have hpk := pow_p k
  have hpd := pow_p d
  have ha : a = (2 * (2 ^ k - 1) + 1) * 2 ^ d := by
    rw [← hla, lst, show k + 1 + d - (k + 1) = d by omega, Nat.pow_succ, show 2 ^ k * 2 - 1 = 2 * (2 ^ k - 1) + 1 by omega]
  have hlb : lb 63 a = 2 ^ d := by rw [ha, lb_pow 63 d _ (by omega)]
  have hsum : a + 2 ^ d = 2 ^ (k + 1 + d) := by
    rw [ha, Nat.pow_add, Nat.pow_succ]
    obtain ⟨q, hq⟩ : ∃ q, 2 ^ k = q + 1 := ⟨2 ^ k - 1, by omega⟩
    rw [hq, show q + 1 - 1 = q by omega]; grind
  have hca := gz_midc k d a (by omega) ha
  have hcs := gz_mids (k + 1 + d) (by omega)
  have ha0 : 0 < a := by rw [ha]; exact Nat.mul_pos (by omega) hpd
  have hkd : 2 ^ k ≤ 2 ^ (k + 1 + d) := Nat.pow_le_pow_right (by omega) (by omega)
  have hps := pow_p (k + 1 + d)
  have hor := or_top (k + 1 + d) 0 (2 ^ k - 1) hps (by omega)
  rw [Nat.zero_add, Nat.zero_or] at hor
  refine ⟨ha0, by rw [hlb, hsum, Nat.pow_succ]; omega, ?_, ?_⟩
  · rw [nxt, hlb, hsum, hca, hcs, show k + 1 - 1 = k by omega, ← hhb]; exact hor
  · rw [← hhb]; omega
theorem gz_seq : ∀ n k, n ≤ 63 → Seq (Nx n) (gz n k)
  | n, 0, _ => by rw [gz_zero]; trivial
  | 0, _ + 1, _ => trivial
  | n + 1, k + 1, h => by
    rw [gz_step]
    refine Seq.app ?_ ?_ ?_
    · refine Seq.mono ?_ (gz_seq n (k + 1) (by omega))
      rintro a b ⟨h0, h1, h2, h3⟩
      exact ⟨h0, by rw [Nat.pow_succ]; omega, h2, h3⟩
    · refine Seq.map ?_ (gz_seq n k (by omega))
      intro a ha b hb hr
      exact Nx.top (by omega) (gz_lt n k a ha) hr
    · intro a b hla hhb
      have hkn : k + 1 ≤ n := by
        by_cases hk : k + 1 ≤ n
        · exact hk
        · have : gz n (k + 1) = [] := List.eq_nil_of_length_eq_zero (by rw [gz_len, bin_big (by omega)])
          rw [this] at hla; simp at hla
      rw [gz_last n (k + 1) hkn] at hla
      rw [List.head?_map, gz_head n k (by omega)] at hhb
      have hla : lst n (k + 1) = a := by simpa using hla
      have hhb : 2 ^ k - 1 + 2 ^ n = b := by simpa using hhb
      obtain ⟨d, rfl⟩ : ∃ d, n = k + 1 + d := ⟨n - (k + 1), by omega⟩
      exact gz_mid k d a b (by omega) hla hhb
theorem cnt_inc : ∀ k m, cnt k (m + 1) ≤ cnt k m + 1
  | 0, _ => Nat.zero_le _
  | k + 1, m => by
    obtain ⟨t, rfl | rfl⟩ := halves m
    · rw [cnt_o, cnt_e]; omega
    · rw [show 2 * t + 1 + 1 = 2 * (t + 1) by omega, cnt_e, cnt_o]; have := cnt_inc k t; omega
theorem cnt_car : ∀ k m, cnt k (m + lb k m) ≤ cnt k m
  | 0, _ => Nat.zero_le _
  | k + 1, m => by
    obtain ⟨t, rfl | rfl⟩ := halves m
    · rw [lb_e, show 2 * t + 2 * lb k t = 2 * (t + lb k t) by omega, cnt_e, cnt_e]; exact cnt_car k t
    · rw [lb_o, show 2 * t + 1 + 1 = 2 * (t + 1) by omega, cnt_e, cnt_o]; have := cnt_inc k t; omega

end Go.Proofs.YtmoilpkgoabopaaDoor.S

