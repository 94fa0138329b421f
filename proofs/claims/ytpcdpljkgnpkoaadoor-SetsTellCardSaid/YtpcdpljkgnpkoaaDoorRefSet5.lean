/-
  DERIVED. The walks of lorryref05's Choose, sized, Sized.
-/
import Derived.Test.YtpcdpljkgnpkoaaDoorRefSet4
import Derived.Test.YtpcdpljkgnpkoaaDoorSetPure2
namespace Go.Proofs.YtpcdpljkgnpkoaaDoor.S
open Go.RowKit
set_option maxRecDepth 8000

theorem cho_neg {n : Nat} {k : Int} (h : k < 0) : cho n k = 0 := if_pos h
theorem cho_nat (n k : Nat) : cho n (k : Int) = min (bin n k) 100000 := by rw [cho, if_neg (by omega), Int.toNat_natCast]
theorem cho_big {n k : Nat} (h : n < k) : cho n (k : Int) = 0 := by rw [cho_nat, bin_big h]; rfl
theorem cho_none (n : Nat) : cho n ((0 : Nat) : Int) = 1 := by rw [cho_nat, bin_zero]; rfl
theorem cho_all (n : Nat) : cho n (n : Int) = 1 := by rw [cho_nat, bin_self]; rfl
theorem cho_of {n k m q : Nat} (h : n = m + q) (hk : bin n q = bin n k) : cho n (k : Int) = min (bin (m + q) q) 100000 := by rw [cho_nat, ← hk, h]
theorem ne_eqI {a b : Nat} (h : a ≠ b) : (((a : Int) == (b : Int)) = false) := by
  rw [beq_eq_false_iff_ne]; omega
theorem eq0I {a : Nat} (h : a ≠ 0) : (((a : Int) == 0) = false) := by
  rw [beq_eq_false_iff_ne]; omega

theorem choose_a (n k m : Nat) (hn : n ≤ 63) (hk0 : 0 < k) (hkm : k ≤ m) (hnm : n = m + k) (w : World) :
    Calls Tryd.prog 36 #[.int .i64 n, .int .i64 k] w fun e w' => e = .returned (.int .i64 (cho n (k : Int) : Nat)) ∧ w = w' := by
  have HC : Hid (cho n (k : Int) = min (bin (m + k) k) 100000) := cho_of hnm rfl
  have hk1 : ((k : Int) == 0) = false := eq0I (by omega)
  have hk2 : ((k : Int) == (n : Int)) = false := ne_eqI (by omega)
  have hnk : (n : Int) - (k : Int) = (m : Int) := by omega
  have hm9 : m + k ≤ 63 := by omega
  have hkn : k ≤ n := by omega
  clear hnm
  go_enter Tryd.func36, Tryd.ntmps36
  go_wp2_with fail
  go_loop [5, 6] (fun s v => ∃ i o : Nat, 1 ≤ i ∧ i ≤ k + 1 ∧ v = .int .i64 i ∧ s = .int .i64 o ∧ o ≤ 100000 ∧ Hid (o = bin (m + (i - 1)) (i - 1))) (fun _ v => k + 1 - (intOf v).toNat)
  case atStart => exact ⟨1, 1, Nat.le_refl _, by omega, rfl, rfl, by omega, (bin_zero _).symm⟩
  case round =>
    obtain ⟨i, o, hi1, hi2, rfl, rfl, ho, HO⟩ := hrel
    by_cases hlt : i ≤ k
    · obtain ⟨t, ht⟩ : ∃ t, o * (m + i) = t := ⟨_, rfl⟩
      have htb : t ≤ 6300000 := by rw [← ht]; exact Nat.mul_le_mul ho (show m + i ≤ 63 by omega)
      have htI : (o : Int) * ((m : Int) + (i : Int)) = (t : Int) := by rw [← ht]; simp
      obtain ⟨p, hp⟩ : ∃ p, t / i = p := ⟨_, rfl⟩
      have hpb : p ≤ 6300000 := by rw [← hp]; exact Nat.le_trans (Nat.div_le_self _ _) htb
      have HP : Hid (p = bin (m + i) i) := by
        show _ = _
        obtain ⟨j, rfl⟩ : ∃ j, i = j + 1 := ⟨i - 1, by omega⟩
        have := bin_next m j
        have h := HO.out
        rw [Nat.add_sub_cancel] at h
        rw [← hp, ← ht, h, this]
      have htd : ((t : Int).tdiv (i : Int)) = (p : Int) := by rw [Int.tdiv_eq_ediv_of_nonneg (by omega), ← hp]; simp
      have hi0 : ((i : Int) == 0) = false := eq0I (by omega)
      by_cases hbig : 100000 < p
      · have HR : Hid (cho n (k : Int) = 100000) := by
          show _ = _
          rw [HC.out]
          have h1 := bin_up_le m hlt
          have h2 := HP.out
          omega
        clear ht hp
        go_wp2_with fail
        go_ret
        exact ⟨ret_int (by rw [HR.out]; rfl), rfl⟩
      · clear ht hp
        go_wp2_with fail
        go_round
        case rel => exact ⟨i + 1, p, by omega, by omega, by go_num, rfl, by omega, HP⟩
        case measure => simp [intOf]; omega
    · have hik : i = k + 1 := by omega
      subst hik
      have HR : Hid (cho n (k : Int) = o) := by
        show _ = _
        rw [HC.out]
        have h := HO.out
        rw [Nat.add_sub_cancel] at h
        rw [← h]; omega
      go_wp2_with fail
      go_ret
      exact ⟨ret_int (by rw [HR.out]), rfl⟩

theorem choose_b (n k d : Nat) (hn : n ≤ 63) (hd0 : 0 < d) (hdk : d < k) (hnd : n = k + d) (w : World) :
    Calls Tryd.prog 36 #[.int .i64 n, .int .i64 k] w fun e w' => e = .returned (.int .i64 (cho n (k : Int) : Nat)) ∧ w = w' := by
  have HC : Hid (cho n (k : Int) = min (bin (k + d) d) 100000) := cho_of hnd (by have := bin_symm n k (by omega); rwa [show n - k = d by omega] at this)
  have hk1 : ((k : Int) == 0) = false := eq0I (by omega)
  have hk2 : ((k : Int) == (n : Int)) = false := ne_eqI (by omega)
  have hnk : (n : Int) - (k : Int) = (d : Int) := by omega
  have hnk2 : (n : Int) - (d : Int) = (k : Int) := by omega
  have hm9 : k + d ≤ 63 := by omega
  have hkn : k ≤ n := by omega
  clear hnd
  go_enter Tryd.func36, Tryd.ntmps36
  go_wp2_with fail
  go_loop [5, 6] (fun s v => ∃ i o : Nat, 1 ≤ i ∧ i ≤ d + 1 ∧ v = .int .i64 i ∧ s = .int .i64 o ∧ o ≤ 100000 ∧ Hid (o = bin (k + (i - 1)) (i - 1))) (fun _ v => d + 1 - (intOf v).toNat)
  case atStart => exact ⟨1, 1, Nat.le_refl _, by omega, rfl, rfl, by omega, (bin_zero _).symm⟩
  case round =>
    obtain ⟨i, o, hi1, hi2, rfl, rfl, ho, HO⟩ := hrel
    by_cases hlt : i ≤ d
    · obtain ⟨t, ht⟩ : ∃ t, o * (k + i) = t := ⟨_, rfl⟩
      have htb : t ≤ 6300000 := by rw [← ht]; exact Nat.mul_le_mul ho (show k + i ≤ 63 by omega)
      have htI : (o : Int) * ((k : Int) + (i : Int)) = (t : Int) := by rw [← ht]; simp
      obtain ⟨p, hp⟩ : ∃ p, t / i = p := ⟨_, rfl⟩
      have hpb : p ≤ 6300000 := by rw [← hp]; exact Nat.le_trans (Nat.div_le_self _ _) htb
      have HP : Hid (p = bin (k + i) i) := by
        show _ = _
        obtain ⟨j, rfl⟩ : ∃ j, i = j + 1 := ⟨i - 1, by omega⟩
        have := bin_next k j
        have h := HO.out
        rw [Nat.add_sub_cancel] at h
        rw [← hp, ← ht, h, this]
      have htd : ((t : Int).tdiv (i : Int)) = (p : Int) := by rw [Int.tdiv_eq_ediv_of_nonneg (by omega), ← hp]; simp
      have hi0 : ((i : Int) == 0) = false := eq0I (by omega)
      by_cases hbig : 100000 < p
      · have HR : Hid (cho n (k : Int) = 100000) := by
          show _ = _
          rw [HC.out]
          have h1 := bin_up_le k hlt
          have h2 := HP.out
          omega
        clear ht hp
        go_wp2_with fail
        go_ret
        exact ⟨ret_int (by rw [HR.out]; rfl), rfl⟩
      · clear ht hp
        go_wp2_with fail
        go_round
        case rel => exact ⟨i + 1, p, by omega, by omega, by go_num, rfl, by omega, HP⟩
        case measure => simp [intOf]; omega
    · have hik : i = d + 1 := by omega
      subst hik
      have HR : Hid (cho n (k : Int) = o) := by
        show _ = _
        rw [HC.out]
        have h := HO.out
        rw [Nat.add_sub_cancel] at h
        rw [← h]; omega
      go_wp2_with fail
      go_ret
      exact ⟨ret_int (by rw [HR.out]), rfl⟩

theorem refChoose_n (n : Nat) (z : Int) (hn : n ≤ 63) (w : World) :
    Calls Tryd.prog 36 #[.int .i64 n, .int .i64 z] w fun e w' => e = .returned (.int .i64 (cho n z : Nat)) ∧ w = w' := by
  by_cases h0 : z < 0
  · have HK : Hid (cho n z = 0) := cho_neg h0
    go_enter Tryd.func36, Tryd.ntmps36
    go_wp2_with fail
    go_ret
    exact ⟨ret_int (by rw [HK.out]; rfl), rfl⟩
  obtain ⟨k, rfl⟩ := Int.eq_ofNat_of_zero_le (show 0 ≤ z by omega)
  by_cases h1 : n < k
  · have HK : Hid (cho n (k : Int) = 0) := cho_big h1
    go_enter Tryd.func36, Tryd.ntmps36
    go_wp2_with fail
    go_ret
    exact ⟨ret_int (by rw [HK.out]; rfl), rfl⟩
  by_cases h2 : k = 0
  · subst h2
    have HK : Hid (cho n ((0 : Nat) : Int) = 1) := cho_none n
    go_enter Tryd.func36, Tryd.ntmps36
    go_wp2_with fail
    go_ret
    exact ⟨ret_int (by have := HK.out; simp at this ⊢; omega), rfl⟩
  by_cases h3 : k = n
  · subst h3
    have HK : Hid (cho k (k : Int) = 1) := cho_all k
    have hk1 : ((k : Int) == 0) = false := eq0I h2
    go_enter Tryd.func36, Tryd.ntmps36
    go_wp2_with fail
    go_ret
    exact ⟨ret_int (by rw [HK.out]; rfl), rfl⟩
  by_cases h4 : k ≤ n - k
  · exact choose_a n k (n - k) hn (by omega) h4 (by omega) w
  · exact choose_b n k (n - k) hn (by omega) (by omega) (by omega) w

end Go.Proofs.YtpcdpljkgnpkoaaDoor.S

