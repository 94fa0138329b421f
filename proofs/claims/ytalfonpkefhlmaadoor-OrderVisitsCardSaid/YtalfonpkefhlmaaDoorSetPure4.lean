/-
  DERIVED. Plain Lean: members from below; the lowest members; the lists of subsets as bits laid at the members' places.
-/
import Derived.Test.YtalfonpkefhlmaaDoorSetPure3
namespace Go.Proofs.YtalfonpkefhlmaaDoor.S

theorem has_e0 (t : Nat) : has (2 * t) 0 = false := by rw [has_div, Nat.pow_zero, Nat.div_one, show 2 * t % 2 = 0 by omega]; rfl
theorem has_o0 (t : Nat) : has (2 * t + 1) 0 = true := by rw [has_div, Nat.pow_zero, Nat.div_one, show (2 * t + 1) % 2 = 1 by omega]; rfl
theorem has_es (t i : Nat) : has (2 * t) (i + 1) = has t i := by rw [has_div, has_div, Nat.pow_succ, Nat.mul_comm (2 ^ i) 2, ← Nat.div_div_eq_div_mul, show 2 * t / 2 = t by omega]
theorem has_os (t i : Nat) : has (2 * t + 1) (i + 1) = has t i := by rw [has_div, has_div, Nat.pow_succ, Nat.mul_comm (2 ^ i) 2, ← Nat.div_div_eq_div_mul, show (2 * t + 1) / 2 = t by omega]
theorem mem_e (t k : Nat) : mem (2 * t) (k + 1) = (mem t k).map (· + 1) := by
  rw [mem, List.range_succ_eq_map, List.filter_cons_of_neg (by rw [has_e0]; simp), List.filter_map, mem]
  congr 1
  apply List.filter_congr
  intro i _
  exact has_es t i
theorem mem_o (t k : Nat) : mem (2 * t + 1) (k + 1) = 0 :: (mem t k).map (· + 1) := by
  rw [mem, List.range_succ_eq_map, List.filter_cons_of_pos (has_o0 t), List.filter_map, mem]
  congr 2
  apply List.filter_congr
  intro i _
  exact has_os t i
theorem mem_head : ∀ k n i r, mem n k = i :: r → ∃ q, n = 2 ^ i * (2 * q + 1)
  | 0, n, i, r, h => by simp [mem] at h
  | k + 1, n, i, r, h => by
    obtain ⟨t, rfl | rfl⟩ := halves n
    · rw [mem_e] at h
      cases hm : mem t k with
      | nil => rw [hm] at h; simp at h
      | cons j s =>
        rw [hm] at h
        simp at h
        obtain ⟨q, hq⟩ := mem_head k t j s hm
        refine ⟨q, ?_⟩
        rw [← h.1, Nat.pow_succ, hq]; grind
    · rw [mem_o] at h
      simp at h
      exact ⟨t, by rw [← h.1]; simp⟩
theorem mem_nil : ∀ k n, n < 2 ^ k → mem n k = [] → n = 0
  | 0, n, h, _ => by simpa using h
  | k + 1, n, h, hm => by
    rw [Nat.pow_succ] at h
    obtain ⟨t, rfl | rfl⟩ := halves n
    · rw [mem_e] at hm
      have := mem_nil k t (by omega) (by simpa using hm); omega
    · rw [mem_o] at hm; simp at hm
theorem mem_zero (k : Nat) : mem 0 k = [] := by
  induction k with
  | zero => rfl
  | succ k ih => have := mem_e 0 k; rw [ih] at this; exact this
/-- taking the least number away -/
theorem mem_tail : ∀ k n i r, n < 2 ^ k → mem n k = i :: r → 2 ^ i ≤ n ∧ n &&& (n - 1) = n - 2 ^ i ∧ mem (n - 2 ^ i) k = r
  | 0, n, i, r, _, h => by simp [mem] at h
  | k + 1, n, i, r, hn, h => by
    rw [Nat.pow_succ] at hn
    obtain ⟨t, rfl | rfl⟩ := halves n
    · rw [mem_e] at h
      cases hm : mem t k with
      | nil => rw [hm] at h; simp at h
      | cons j s =>
        rw [hm] at h
        simp at h
        obtain ⟨h1, h2, h3⟩ := mem_tail k t j s (by omega) hm
        have hp := pow_p j
        rw [← h.1, Nat.pow_succ]
        refine ⟨by omega, ?_, ?_⟩
        · rw [show 2 * t - 1 = 2 * (t - 1) + 1 by omega, and_eo, h2]; omega
        · rw [show 2 * t - 2 ^ j * 2 = 2 * (t - 2 ^ j) by omega, mem_e, h3, ← h.2]
    · rw [mem_o] at h
      simp at h
      rw [← h.1, Nat.pow_zero, show 2 * t + 1 - 1 = 2 * t by omega, and_oe, Nat.and_self, mem_e]
      exact ⟨by omega, rfl, h.2⟩
/-- the lowest bit of a number -/
theorem low_and : ∀ i q K, 2 ^ i * (2 * q + 1) < 2 ^ K → (2 ^ i * (2 * q + 1)) &&& (2 ^ K - 2 ^ i * (2 * q + 1)) = 2 ^ i
  | _, _, 0, h => by
    rename_i i q
    have := pow_p i
    have := Nat.mul_le_mul_left (2 ^ i) (show 1 ≤ 2 * q + 1 by omega)
    rw [Nat.pow_zero] at h; omega
  | 0, q, K + 1, h => by
    rw [Nat.pow_zero, Nat.one_mul] at h ⊢
    have := lb_and (K + 1) (K + 1) (2 * q + 1) (Nat.le_refl _) (by omega) h
    rw [lb_o] at this
    exact this
  | i + 1, q, K + 1, h => by
    have e : 2 ^ (i + 1) * (2 * q + 1) = 2 * (2 ^ i * (2 * q + 1)) := by rw [Nat.pow_succ]; grind
    rw [e] at h ⊢
    rw [Nat.pow_succ] at h
    rw [Nat.pow_succ 2 K, show 2 ^ K * 2 - 2 * (2 ^ i * (2 * q + 1)) = 2 * (2 ^ K - 2 ^ i * (2 * q + 1)) by omega, and_ee, low_and i q K (by omega), Nat.pow_succ, Nat.mul_comm]
/-- one more of the lowest members -/
theorem low_step : ∀ k n j, n < 2 ^ k → j < cnt k n → (n - pd k n (2 ^ j - 1)) &&& (n - pd k n (2 ^ j - 1) - 1) = n - pd k n (2 ^ (j + 1) - 1)
  | 0, n, j, _, h => by have : cnt 0 n = 0 := rfl
                        omega
  | k + 1, n, j, hn, h => by
    rw [Nat.pow_succ] at hn
    obtain ⟨t, rfl | rfl⟩ := halves n
    · rw [cnt_e] at h
      have h1 := low_step k t j (by omega) h
      have hc : 2 ^ j ≤ 2 ^ cnt k t := Nat.pow_le_pow_right (by omega) (by omega)
      have hc2 : 2 ^ (j + 1) ≤ 2 ^ cnt k t := Nat.pow_le_pow_right (by omega) (by omega)
      have hp := pow_p j
      have hlt := pd_lt k t (2 ^ j - 1) (by omega) (by rw [Nat.pow_succ] at hc2; omega)
      have hl2 := pd_le k t (2 ^ (j + 1) - 1)
      rw [pd_e, pd_e, show 2 * t - 2 * pd k t (2 ^ j - 1) - 1 = 2 * (t - pd k t (2 ^ j - 1) - 1) + 1 by omega, show 2 * t - 2 * pd k t (2 ^ j - 1) = 2 * (t - pd k t (2 ^ j - 1)) by omega, and_eo, h1]; omega
    · rw [cnt_o] at h
      have hl0 := pd_le k t (2 ^ j - 1)
      cases j with
      | zero =>
        have hz := pd_zero (k + 1) (2 * t + 1)
        have h1 := pd_o1 k t 0
        rw [pd_zero] at h1
        rw [show 2 ^ 0 - 1 = 0 from rfl, hz, show 2 ^ (0 + 1) - 1 = 2 * 0 + 1 from rfl, h1, show 2 * t + 1 - 0 - 1 = 2 * t by omega, show 2 * t + 1 - 0 = 2 * t + 1 by omega, and_oe, Nat.and_self]; omega
      | succ j =>
        have h1 := low_step k t j (by omega) (by omega)
        have hp := pow_p j
        have hp1 : 2 ^ (j + 1) - 1 = 2 * (2 ^ j - 1) + 1 := by rw [Nat.pow_succ]; omega
        have hp2 : 2 ^ (j + 1 + 1) - 1 = 2 * (2 ^ (j + 1) - 1) + 1 := by rw [Nat.pow_succ 2 (j + 1)]; have := pow_p (j + 1); omega
        have hc2 : 2 ^ (j + 1) ≤ 2 ^ cnt k t := Nat.pow_le_pow_right (by omega) (by omega)
        have hlt := pd_lt k t (2 ^ j - 1) (by omega) (by rw [Nat.pow_succ] at hc2; omega)
        have hl2 := pd_le k t (2 ^ (j + 1) - 1)
        rw [hp2, pd_o1]
        rw [show 2 ^ (j + 1) - 1 = 2 * (2 ^ j - 1) + 1 from hp1, pd_o1]
        rw [← hp1] at *
        rw [show 2 * t + 1 - (2 * pd k t (2 ^ j - 1) + 1) - 1 = 2 * (t - pd k t (2 ^ j - 1) - 1) + 1 by omega, show 2 * t + 1 - (2 * pd k t (2 ^ j - 1) + 1) = 2 * (t - pd k t (2 ^ j - 1)) by omega, and_eo, h1]; omega
/-- a further bit is laid at the next member -/
theorem pd_add : ∀ k n m j, m < 2 ^ j → j < cnt k n → pd k n (m + 2 ^ j) = pd k n m + 2 ^ (mem n k).getD j 0
  | 0, n, m, j, _, h => by have : cnt 0 n = 0 := rfl
                           omega
  | k + 1, n, m, j, hm, h => by
    obtain ⟨t, rfl | rfl⟩ := halves n
    · rw [cnt_e] at h
      rw [pd_e, pd_e, pd_add k t m j hm h, mem_e]
      have hlen : j < (mem t k).length := by
        have hh : ∀ k t, (mem t k).length = cnt k t := by
          intro k
          induction k with
          | zero => intro t; rfl
          | succ k ih =>
            intro t
            obtain ⟨u, rfl | rfl⟩ := halves t
            · rw [mem_e, cnt_e, List.length_map, ih]
            · rw [mem_o, cnt_o, List.length_cons, List.length_map, ih]; omega
        rw [hh]; exact h
      rw [List.getD_eq_getElem?_getD, List.getD_eq_getElem?_getD, List.getElem?_map, List.getElem?_eq_getElem hlen]
      simp [Nat.pow_succ]; omega
    · rw [cnt_o] at h
      cases j with
      | zero =>
        have : m = 0 := by simpa using hm
        subst this
        have h1 := pd_o1 k t 0
        rw [pd_zero] at h1
        rw [show 0 + 2 ^ 0 = 2 * 0 + 1 from rfl, h1, pd_zero, mem_o]; rfl
      | succ j =>
        have hlen : j < (mem t k).length := by
          have hh : ∀ k t, (mem t k).length = cnt k t := by
            intro k
            induction k with
            | zero => intro t; rfl
            | succ k ih =>
              intro t
              obtain ⟨u, rfl | rfl⟩ := halves t
              · rw [mem_e, cnt_e, List.length_map, ih]
              · rw [mem_o, cnt_o, List.length_cons, List.length_map, ih]; omega
          rw [hh]; omega
        have hg : ((mem (2 * t + 1) (k + 1)).getD (j + 1) 0) = (mem t k).getD j 0 + 1 := by
          rw [mem_o, List.getD_eq_getElem?_getD, List.getD_eq_getElem?_getD, List.getElem?_cons_succ, List.getElem?_map, List.getElem?_eq_getElem hlen]; rfl
        rw [hg, Nat.pow_succ, Nat.pow_succ]
        obtain ⟨x, rfl | rfl⟩ := halves m
        · rw [show 2 * x + 2 ^ j * 2 = 2 * (x + 2 ^ j) by omega, pd_o0, pd_o0, pd_add k t x j (by rw [Nat.pow_succ] at hm; omega) (by omega)]; omega
        · rw [show 2 * x + 1 + 2 ^ j * 2 = 2 * (x + 2 ^ j) + 1 by omega, pd_o1, pd_o1, pd_add k t x j (by rw [Nat.pow_succ] at hm; omega) (by omega)]; omega

end Go.Proofs.YtalfonpkefhlmaaDoor.S

