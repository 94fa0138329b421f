/-
  DERIVED. Plain Lean: the bits of a set's subsets: how the next subset is found by sums and differences.
-/
import Derived.Test.YtalfonpkefhlmaaDoorSetPure2
namespace Go.Proofs.YtalfonpkefhlmaaDoor.S

theorem and_bit (x y a b : Nat) (ha : a < 2) (hb : b < 2) : (2 * x + a) &&& (2 * y + b) = 2 * (x &&& y) + (a &&& b) := by
  have h1 : ((2 * x + a) &&& (2 * y + b)) / 2 = x &&& y := by rw [Nat.and_div_two, show (2 * x + a) / 2 = x by omega, show (2 * y + b) / 2 = y by omega]
  have h2 : ((2 * x + a) &&& (2 * y + b)) % 2 = a &&& b := by
    have := Nat.and_mod_two_pow (a := 2 * x + a) (b := 2 * y + b) (n := 1)
    rw [Nat.pow_one, show (2 * x + a) % 2 = a by omega, show (2 * y + b) % 2 = b by omega] at this
    exact this
  omega
theorem or_bit (x y a b : Nat) (ha : a < 2) (hb : b < 2) : (2 * x + a) ||| (2 * y + b) = 2 * (x ||| y) + (a ||| b) := by
  have h1 : ((2 * x + a) ||| (2 * y + b)) / 2 = x ||| y := by rw [Nat.or_div_two, show (2 * x + a) / 2 = x by omega, show (2 * y + b) / 2 = y by omega]
  have h2 : ((2 * x + a) ||| (2 * y + b)) % 2 = a ||| b := by
    have := Nat.or_mod_two_pow (a := 2 * x + a) (b := 2 * y + b) (n := 1)
    rw [Nat.pow_one, show (2 * x + a) % 2 = a by omega, show (2 * y + b) % 2 = b by omega] at this
    exact this
  omega
theorem and_ee (x y : Nat) : (2 * x) &&& (2 * y) = 2 * (x &&& y) := and_bit x y 0 0 (by omega) (by omega)
theorem and_eo (x y : Nat) : (2 * x) &&& (2 * y + 1) = 2 * (x &&& y) := and_bit x y 0 1 (by omega) (by omega)
theorem and_oe (x y : Nat) : (2 * x + 1) &&& (2 * y) = 2 * (x &&& y) := and_bit x y 1 0 (by omega) (by omega)
theorem and_oo (x y : Nat) : (2 * x + 1) &&& (2 * y + 1) = 2 * (x &&& y) + 1 := and_bit x y 1 1 (by omega) (by omega)
theorem or_ee (x y : Nat) : (2 * x) ||| (2 * y) = 2 * (x ||| y) := or_bit x y 0 0 (by omega) (by omega)
theorem or_eo (x y : Nat) : (2 * x) ||| (2 * y + 1) = 2 * (x ||| y) + 1 := or_bit x y 0 1 (by omega) (by omega)
theorem or_oe (x y : Nat) : (2 * x + 1) ||| (2 * y) = 2 * (x ||| y) + 1 := or_bit x y 1 0 (by omega) (by omega)
theorem or_oo (x y : Nat) : (2 * x + 1) ||| (2 * y + 1) = 2 * (x ||| y) + 1 := or_bit x y 1 1 (by omega) (by omega)
theorem halves (n : Nat) : ∃ t, n = 2 * t ∨ n = 2 * t + 1 := ⟨n / 2, by omega⟩

theorem cnt_e (k t : Nat) : cnt (k + 1) (2 * t) = cnt k t := by rw [cnt_succ, show 2 * t % 2 = 0 by omega, show 2 * t / 2 = t by omega]; omega
theorem cnt_o (k t : Nat) : cnt (k + 1) (2 * t + 1) = 1 + cnt k t := by rw [cnt_succ, show (2 * t + 1) % 2 = 1 by omega, show (2 * t + 1) / 2 = t by omega]

/-- the bits of m laid at the places of n's bits -/
def pd : Nat → Nat → Nat → Nat
  | 0, _, _ => 0
  | k + 1, n, m => if n % 2 = 1 then m % 2 + 2 * pd k (n / 2) (m / 2) else 2 * pd k (n / 2) m
theorem pd_e (k t m : Nat) : pd (k + 1) (2 * t) m = 2 * pd k t m := by rw [pd, if_neg (by omega), show 2 * t / 2 = t by omega]
theorem pd_o0 (k t m : Nat) : pd (k + 1) (2 * t + 1) (2 * m) = 2 * pd k t m := by
  rw [pd, if_pos (by omega), show (2 * t + 1) / 2 = t by omega, show 2 * m / 2 = m by omega, show 2 * m % 2 = 0 by omega]; omega
theorem pd_o1 (k t m : Nat) : pd (k + 1) (2 * t + 1) (2 * m + 1) = 2 * pd k t m + 1 := by
  rw [pd, if_pos (by omega), show (2 * t + 1) / 2 = t by omega, show (2 * m + 1) / 2 = m by omega, show (2 * m + 1) % 2 = 1 by omega]; omega
theorem pd_zero : ∀ k n, pd k n 0 = 0
  | 0, _ => rfl
  | k + 1, n => by
    obtain ⟨t, rfl | rfl⟩ := halves n
    · rw [pd_e, pd_zero k]
    · have := pd_o0 k t 0; rw [pd_zero k] at this; exact this
theorem pd_le : ∀ k n m, pd k n m ≤ n
  | 0, _, _ => Nat.zero_le _
  | k + 1, n, m => by
    obtain ⟨t, rfl | rfl⟩ := halves n
    · rw [pd_e]; have := pd_le k t m; omega
    · obtain ⟨j, rfl | rfl⟩ := halves m
      · rw [pd_o0]; have := pd_le k t j; omega
      · rw [pd_o1]; have := pd_le k t j; omega
theorem pd_and : ∀ k n m, pd k n m &&& n = pd k n m
  | 0, _, _ => Nat.zero_and _
  | k + 1, n, m => by
    obtain ⟨t, rfl | rfl⟩ := halves n
    · rw [pd_e, and_ee, pd_and k t m]
    · obtain ⟨j, rfl | rfl⟩ := halves m
      · rw [pd_o0, and_eo, pd_and k t j]
      · rw [pd_o1, and_oo, pd_and k t j]
theorem pow_s (c : Nat) : 2 ^ (1 + c) = 2 * 2 ^ c := by rw [Nat.add_comm, Nat.pow_succ, Nat.mul_comm]
theorem pow_p (c : Nat) : 0 < 2 ^ c := Nat.pow_pos (by omega)
/-- a mask of places and its rest -/
theorem pd_neg : ∀ k n m, n < 2 ^ k → m < 2 ^ cnt k n → pd k n (2 ^ cnt k n - 1 - m) + pd k n m = n
  | 0, n, m, h, _ => by have : n = 0 := by simpa using h
                        subst this; rfl
  | k + 1, n, m, h, hm => by
    rw [Nat.pow_succ] at h
    obtain ⟨t, rfl | rfl⟩ := halves n
    · rw [cnt_e] at hm ⊢
      rw [pd_e, pd_e]; have := pd_neg k t m (by omega) hm; omega
    · rw [cnt_o, pow_s] at hm ⊢
      obtain ⟨j, rfl | rfl⟩ := halves m
      · rw [show 2 * 2 ^ cnt k t - 1 - 2 * j = 2 * (2 ^ cnt k t - 1 - j) + 1 by omega, pd_o1, pd_o0]
        have := pd_neg k t j (by omega) (by omega); omega
      · rw [show 2 * 2 ^ cnt k t - 1 - (2 * j + 1) = 2 * (2 ^ cnt k t - 1 - j) by omega, pd_o0, pd_o1]
        have := pd_neg k t j (by omega) (by omega); omega
theorem pd_full (k n : Nat) (h : n < 2 ^ k) : pd k n (2 ^ cnt k n - 1) = n := by
  have := pd_neg k n 0 h (pow_p _)
  rw [pd_zero] at this; simpa using this
theorem pd_mono : ∀ k n a b, a < b → b < 2 ^ cnt k n → pd k n a < pd k n b
  | 0, n, a, b, h, hb => by have : cnt 0 n = 0 := rfl
                            rw [this] at hb; omega
  | k + 1, n, a, b, h, hb => by
    obtain ⟨t, rfl | rfl⟩ := halves n
    · rw [cnt_e] at hb
      rw [pd_e, pd_e]; have := pd_mono k t a b h hb; omega
    · rw [cnt_o, pow_s] at hb
      obtain ⟨x, rfl | rfl⟩ := halves a <;> obtain ⟨y, rfl | rfl⟩ := halves b
      · rw [pd_o0, pd_o0]; have := pd_mono k t x y (by omega) (by omega); omega
      · rw [pd_o0, pd_o1]
        by_cases e : x = y
        · subst e; omega
        · have := pd_mono k t x y (by omega) (by omega); omega
      · rw [pd_o1, pd_o0]; have := pd_mono k t x y (by omega) (by omega); omega
      · rw [pd_o1, pd_o1]; have := pd_mono k t x y (by omega) (by omega); omega
theorem pd_lt (k n m : Nat) (h : n < 2 ^ k) (hm : m + 1 < 2 ^ cnt k n) : pd k n m < n := by
  have := pd_mono k n m (2 ^ cnt k n - 1) (by omega) (by have := pow_p (cnt k n); omega)
  rwa [pd_full k n h] at this
/-- the complement within n -/
theorem pd_cmp : ∀ k K n m, k ≤ K → n < 2 ^ k → (2 ^ K - 1 - (n - pd k n m)) &&& n = pd k n m
  | 0, K, n, m, _, h => by have : n = 0 := by simpa using h
                           subst this; exact Nat.and_zero _
  | k + 1, 0, n, m, hk, _ => by omega
  | k + 1, K + 1, n, m, hk, h => by
    have hKK : 2 ^ k ≤ 2 ^ K := Nat.pow_le_pow_right (by omega) (by omega)
    have ih := fun t m (ht : t < 2 ^ k) => pd_cmp k K t m (by omega) ht
    rw [Nat.pow_succ] at h ⊢
    obtain ⟨t, rfl | rfl⟩ := halves n
    · have hl := pd_le k t m
      rw [pd_e, show 2 ^ K * 2 - 1 - (2 * t - 2 * pd k t m) = 2 * (2 ^ K - 1 - (t - pd k t m)) + 1 by omega, and_oe, ih t m (by omega)]
    · obtain ⟨j, rfl | rfl⟩ := halves m
      · have hl := pd_le k t j
        rw [pd_o0, show 2 ^ K * 2 - 1 - (2 * t + 1 - 2 * pd k t j) = 2 * (2 ^ K - 1 - (t - pd k t j)) by omega, and_eo, ih t j (by omega)]
      · have hl := pd_le k t j
        rw [pd_o1, show 2 ^ K * 2 - 1 - (2 * t + 1 - (2 * pd k t j + 1)) = 2 * (2 ^ K - 1 - (t - pd k t j)) + 1 by omega, and_oo, ih t j (by omega)]
theorem pd_orn : ∀ k K n m, k ≤ K → n < 2 ^ k → pd k n m ||| (2 ^ K - 1 - n) = 2 ^ K - 1 - (n - pd k n m)
  | 0, K, n, m, _, h => by have : n = 0 := by simpa using h
                           subst this; exact Nat.zero_or _
  | k + 1, 0, n, m, hk, _ => by omega
  | k + 1, K + 1, n, m, hk, h => by
    have hKK : 2 ^ k ≤ 2 ^ K := Nat.pow_le_pow_right (by omega) (by omega)
    have ih := fun t m (ht : t < 2 ^ k) => pd_orn k K t m (by omega) ht
    rw [Nat.pow_succ] at h ⊢
    obtain ⟨t, rfl | rfl⟩ := halves n
    · have hl := pd_le k t m
      rw [pd_e, show 2 ^ K * 2 - 1 - 2 * t = 2 * (2 ^ K - 1 - t) + 1 by omega, or_eo, ih t m (by omega)]; omega
    · obtain ⟨j, rfl | rfl⟩ := halves m
      · have hl := pd_le k t j
        rw [pd_o0, show 2 ^ K * 2 - 1 - (2 * t + 1) = 2 * (2 ^ K - 1 - t) by omega, or_ee, ih t j (by omega)]; omega
      · have hl := pd_le k t j
        rw [pd_o1, show 2 ^ K * 2 - 1 - (2 * t + 1) = 2 * (2 ^ K - 1 - t) by omega, or_oe, ih t j (by omega)]; omega
/-- the next subset -/
theorem pd_inc : ∀ k K n m, k ≤ K → n < 2 ^ k → m + 1 < 2 ^ cnt k n → (2 ^ K - (n - pd k n m)) &&& n = pd k n (m + 1)
  | 0, K, n, m, _, h, hm => by have : cnt 0 n = 0 := rfl
                               rw [this] at hm; omega
  | k + 1, 0, n, m, hk, _, _ => by omega
  | k + 1, K + 1, n, m, hk, h, hm => by
    have hKK : 2 ^ k ≤ 2 ^ K := Nat.pow_le_pow_right (by omega) (by omega)
    have ih := fun t m (ht : t < 2 ^ k) => pd_inc k K t m (by omega) ht
    have ihc := fun t m (ht : t < 2 ^ k) => pd_cmp k K t m (by omega) ht
    rw [Nat.pow_succ] at h ⊢
    obtain ⟨t, rfl | rfl⟩ := halves n
    · have hl := pd_le k t m
      rw [cnt_e] at hm
      rw [pd_e, pd_e, show 2 ^ K * 2 - (2 * t - 2 * pd k t m) = 2 * (2 ^ K - (t - pd k t m)) by omega, and_ee, ih t m (by omega) hm]
    · rw [cnt_o, pow_s] at hm
      obtain ⟨j, rfl | rfl⟩ := halves m
      · have hl := pd_le k t j
        rw [pd_o0, pd_o1, show 2 ^ K * 2 - (2 * t + 1 - 2 * pd k t j) = 2 * (2 ^ K - 1 - (t - pd k t j)) + 1 by omega, and_oo, ihc t j (by omega)]
      · have hl := pd_le k t j
        rw [pd_o1, show 2 * j + 1 + 1 = 2 * (j + 1) by omega, pd_o0, show 2 ^ K * 2 - (2 * t + 1 - (2 * pd k t j + 1)) = 2 * (2 ^ K - (t - pd k t j)) by omega, and_eo, ih t j (by omega) (by omega)]
/-- the lowest bit -/
def lb : Nat → Nat → Nat
  | 0, _ => 0
  | k + 1, m => if m % 2 = 1 then 1 else 2 * lb k (m / 2)
theorem lb_e (k m : Nat) : lb (k + 1) (2 * m) = 2 * lb k m := by rw [lb, if_neg (by omega), show 2 * m / 2 = m by omega]
theorem lb_o (k m : Nat) : lb (k + 1) (2 * m + 1) = 1 := by rw [lb, if_pos (by omega)]
theorem lb_le : ∀ k m, lb k m ≤ m
  | 0, _ => Nat.zero_le _
  | k + 1, m => by
    obtain ⟨t, rfl | rfl⟩ := halves m
    · rw [lb_e]; have := lb_le k t; omega
    · rw [lb_o]; omega
theorem lb_more : ∀ k m, m < 2 ^ k → lb (k + 1) m = lb k m
  | 0, m, h => by have : m = 0 := by simpa using h
                  subst this; rfl
  | k + 1, m, h => by
    rw [Nat.pow_succ] at h
    obtain ⟨t, rfl | rfl⟩ := halves m
    · rw [lb_e, lb_e, lb_more k t (by omega)]
    · rw [lb_o, lb_o]
theorem lb_and : ∀ k K m, k ≤ K → 0 < m → m < 2 ^ k → m &&& (2 ^ K - m) = lb k m
  | 0, K, m, _, h0, h => by simp at h; omega
  | k + 1, 0, m, hk, _, _ => by omega
  | k + 1, K + 1, m, hk, h0, h => by
    have hKK : 2 ^ k ≤ 2 ^ K := Nat.pow_le_pow_right (by omega) (by omega)
    rw [Nat.pow_succ] at h ⊢
    obtain ⟨t, rfl | rfl⟩ := halves m
    · rw [lb_e, show 2 ^ K * 2 - 2 * t = 2 * (2 ^ K - t) by omega, and_ee, lb_and k K t (by omega) (by omega) (by omega)]
    · rw [lb_o, show 2 ^ K * 2 - (2 * t + 1) = 2 * (2 ^ K - 1 - t) + 1 by omega, and_oo]
      have := Nat.and_comm t (2 ^ K - 1 - t)
      have h2 : t &&& (2 ^ K - 1 - t) = 0 := by
        apply Nat.eq_of_testBit_eq
        intro i
        rw [Nat.testBit_and, show 2 ^ K - 1 - t = 2 ^ K - (t + 1) by omega, Nat.testBit_two_pow_sub_succ (by omega), Nat.zero_testBit]
        cases t.testBit i <;> simp
      rw [h2]
theorem pd_pos : ∀ k n m, 0 < m → m < 2 ^ cnt k n → 0 < pd k n m := fun k n m h hm => by
  have := pd_mono k n 0 m h hm
  rw [pd_zero] at this; exact this
theorem cnt_le_pow (k n : Nat) : 2 ^ cnt k n ≤ 2 ^ k := Nat.pow_le_pow_right (by omega) (cnt_le k n)
/-- the carry of the lowest member -/
theorem pd_car : ∀ k K n m, k ≤ K → n < 2 ^ k → 0 < m → m + lb k m < 2 ^ cnt k n →
    lb k (pd k n m) ≤ n - pd k n m ∧ (2 ^ K - 1 - (n - pd k n m) + lb k (pd k n m)) &&& n = pd k n (m + lb k m)
  | 0, K, n, m, _, h, h0, hm => by have : cnt 0 n = 0 := rfl
                                   rw [this] at hm; omega
  | k + 1, 0, n, m, hk, _, _, _ => by omega
  | k + 1, K + 1, n, m, hk, h, h0, hm => by
    have hKK : 2 ^ k ≤ 2 ^ K := Nat.pow_le_pow_right (by omega) (by omega)
    have ih := fun t m (ht : t < 2 ^ k) => pd_car k K t m (by omega) ht
    have ihi := fun t m (ht : t < 2 ^ k) => pd_inc k K t m (by omega) ht
    rw [Nat.pow_succ] at h ⊢
    obtain ⟨t, rfl | rfl⟩ := halves n
    · have hl := pd_le k t m
      rw [cnt_e] at hm
      have hcp := cnt_le_pow k t
      rw [lb_more k m (by omega)] at hm ⊢
      obtain ⟨i1, i2⟩ := ih t m (by omega) h0 hm
      rw [pd_e, pd_e, lb_e]
      refine ⟨by omega, ?_⟩
      rw [show 2 ^ K * 2 - 1 - (2 * t - 2 * pd k t m) + 2 * lb k (pd k t m) = 2 * (2 ^ K - 1 - (t - pd k t m) + lb k (pd k t m)) + 1 by omega, and_oe, i2]
    · rw [cnt_o, pow_s] at hm
      obtain ⟨j, rfl | rfl⟩ := halves m
      · have hl := pd_le k t j
        rw [lb_e] at hm ⊢
        obtain ⟨i1, i2⟩ := ih t j (by omega) (by omega) (by omega)
        rw [pd_o0, lb_e, show 2 * j + 2 * lb k j = 2 * (j + lb k j) by omega, pd_o0]
        refine ⟨by omega, ?_⟩
        rw [show 2 ^ K * 2 - 1 - (2 * t + 1 - 2 * pd k t j) + 2 * lb k (pd k t j) = 2 * (2 ^ K - 1 - (t - pd k t j) + lb k (pd k t j)) by omega, and_eo, i2]
      · have hl := pd_le k t j
        rw [lb_o] at hm ⊢
        have hlt := pd_lt k t j (by omega) (by omega)
        rw [pd_o1, lb_o, show 2 * j + 1 + 1 = 2 * (j + 1) by omega, pd_o0]
        refine ⟨by omega, ?_⟩
        rw [show 2 ^ K * 2 - 1 - (2 * t + 1 - (2 * pd k t j + 1)) + 1 = 2 * (2 ^ K - (t - pd k t j)) by omega, and_eo, ihi t j (by omega) (by omega)]
theorem pd_cnt : ∀ k n m, m < 2 ^ cnt k n → cnt k (pd k n m) = cnt k m
  | 0, _, _, _ => rfl
  | k + 1, n, m, hm => by
    obtain ⟨t, rfl | rfl⟩ := halves n
    · rw [cnt_e] at hm
      have hcp := cnt_le_pow k t
      rw [pd_e, cnt_e, pd_cnt k t m hm, cnt_more k m (by omega)]
    · rw [cnt_o, pow_s] at hm
      obtain ⟨j, rfl | rfl⟩ := halves m
      · rw [pd_o0, cnt_e, cnt_e, pd_cnt k t j (by omega)]
      · rw [pd_o1, cnt_o, cnt_o, pd_cnt k t j (by omega)]
theorem pd_or : ∀ k n a b, pd k n a ||| pd k n b = pd k n (a ||| b)
  | 0, _, _, _ => by simp [pd]
  | k + 1, n, a, b => by
    obtain ⟨t, rfl | rfl⟩ := halves n
    · rw [pd_e, pd_e, pd_e, or_ee, pd_or k t a b]
    · obtain ⟨x, rfl | rfl⟩ := halves a <;> obtain ⟨y, rfl | rfl⟩ := halves b
      · rw [or_ee, pd_o0, pd_o0, pd_o0, or_ee, pd_or k t x y]
      · rw [or_eo, pd_o0, pd_o1, pd_o1, or_eo, pd_or k t x y]
      · rw [or_oe, pd_o1, pd_o0, pd_o1, or_oe, pd_or k t x y]
      · rw [or_oo, pd_o1, pd_o1, pd_o1, or_oo, pd_or k t x y]

end Go.Proofs.YtalfonpkefhlmaaDoor.S

