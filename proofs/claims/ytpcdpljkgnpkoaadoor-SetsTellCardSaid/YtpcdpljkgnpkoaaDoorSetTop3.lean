/-
  DERIVED. The walks of sets: lowest, following, choices.
-/
import Derived.Test.YtpcdpljkgnpkoaaDoorSetTop2
namespace Go.Proofs.YtpcdpljkgnpkoaaDoor.S
open Go.RowKit
set_option maxRecDepth 8000

theorem lowest_e (n c x : Nat) (hn : n < 9223372036854775808) (hc : c ≤ size n) (hx : pd 63 n (2 ^ c - 1) = x) (w : World) :
    Calls Tryd.prog 46 #[.int .i64 n, .int .i64 c] w fun e w' => e = .returned (.int .i64 x) ∧ w = w' := by
  have hc63 : c ≤ 63 := Nat.le_trans hc (cnt_le 63 n)
  have HC := Lib.hid hc
  have H0 : Hid (n = n - pd 63 n (2 ^ 0 - 1)) := by show _ = _; rw [show 2 ^ 0 - 1 = 0 from rfl, pd_zero, Nat.sub_zero]
  have HE := i_andNot n (2 ^ c - 1) hn
  rw [hx] at HE
  have HX := Lib.hid hx
  clear hc hx
  go_enter Tryd.func46, Tryd.ntmps46
  go_wp2_with fail
  go_loop [5, 8] (fun r i => ∃ j m : Nat, j ≤ c ∧ i = .int .i64 j ∧ r = .int .i64 m ∧ m ≤ n ∧ Hid (m = n - pd 63 n (2 ^ j - 1))) (fun _ i => c - (intOf i).toNat)
  case atStart => exact ⟨0, n, Nat.zero_le _, rfl, rfl, Nat.le_refl _, H0⟩
  case round =>
    clear H0
    obtain ⟨j, m, hj, rfl, rfl, hm, HM⟩ := hrel
    by_cases hlt : j < c
    · have hst := low_step 63 n j (by simpa using hn) (Nat.lt_of_lt_of_le hlt HC.out)
      rw [← HM.out] at hst
      have h2 : 2 ^ j < 2 ^ cnt 63 n := Nat.pow_lt_pow_right (by omega) (Nat.lt_of_lt_of_le hlt HC.out)
      have hpos := pd_lt 63 n (2 ^ j - 1) (by simpa using hn) (by have := pow_p j; omega)
      have hm0 : 0 < m := by rw [HM.out]; omega
      obtain ⟨q, hq⟩ : ∃ q, n - pd 63 n (2 ^ (j + 1) - 1) = q := ⟨_, rfl⟩
      rw [hq] at hst
      have HW := Lib.hid (fun w => without_e m q hm0 (by omega) hst w)
      have HQ : Hid (q = n - pd 63 n (2 ^ (j + 1) - 1)) := hq.symm
      have hqn : q ≤ n := by rw [← hq]; exact Nat.sub_le _ _
      clear hst h2 hpos hq
      go_wp2_with fail
      refine (HW.out _).mono ?_
      rintro e w' ⟨rfl, rfl⟩
      go_wp2_with fail
      go_round
      case rel => exact ⟨j + 1, q, by omega, by go_num, rfl, hqn, HQ⟩
      case measure => simp [intOf]; omega
    · have hj' : j = c := by omega
      subst hj'
      have HM2 : m = n - x := by rw [HM.out, HX.out]
      rw [← HM2] at HE
      clear HM2
      have HE2 := Lib.hid HE
      clear HE
      go_wp2_with fail
      go_ret
      exact ⟨ret_int HE2.out, rfl⟩

theorem cnt_bits : ∀ k m x, x < 2 ^ m → cnt k x ≤ m
  | 0, _, _, _ => Nat.zero_le _
  | k + 1, 0, x, h => by
    have : x = 0 := by simpa using h
    subst this; rw [cnt_zero]; exact Nat.le_refl _
  | k + 1, m + 1, x, hm => by
    rw [Nat.pow_succ] at hm
    obtain ⟨t, rfl | rfl⟩ := halves x
    · rw [cnt_e]; have := cnt_bits k m t (by omega); omega
    · rw [cnt_o]; have := cnt_bits k m t (by omega); omega
theorem fol_pure (n a b s t : Nat) (hn : n < 9223372036854775808) (hs : pd 63 n a = s) (hr : Nx (size n) a b) (ht : pd 63 n b = t) :
    ∃ (X Y : Int) (L cc y p q d : Nat), (0 < s ∧ s ≤ n) ∧ (-9223372036854775808 ≤ X ∧ X < 0) ∧ (-9223372036854775808 ≤ Y ∧ Y < 0) ∧ L ≤ n ∧ cc ≤ n ∧ y ≤ n ∧ p ≤ 63 ∧ q ≤ p ∧ d ≤ 63 ∧ (p : Int) - (q : Int) = (d : Int) ∧ wrap64 (Y + (L : Int)) = Y + (L : Int) ∧
      bits .xor .i64 (-1) (n : Int) = X ∧ bits .or .i64 (s : Int) X = Y ∧ bits .and .i64 (s : Int) (-(s : Int)) = (L : Int) ∧ bits .and .i64 (Y + (L : Int)) (n : Int) = (cc : Int) ∧
      size s = p ∧ size cc = q ∧ d ≤ size n ∧ pd 63 n (2 ^ d - 1) = y ∧ bits .or .i64 (cc : Int) (y : Int) = (t : Int) := by
  obtain ⟨h0, h1, h2, h3⟩ := hr
  have hlow := lb_le 63 a
  have ha : a < 2 ^ size n := Nat.lt_of_le_of_lt (Nat.le_add_right _ _) h1
  have hsn : s ≤ n := by rw [← hs]; exact pd_le _ _ _
  have hs0 : 0 < s := by rw [← hs]; exact pd_pos 63 n a h0 ha
  have hx := i_not n hn
  have ho := i_orNot n a s hn hs
  have hs9 : s < 9223372036854775808 := Nat.lt_of_le_of_lt hsn hn
  have hl := i_low s hs0 hs9
  obtain ⟨hle, hc⟩ := i_car n a s hn hs h0 h1
  have hq : size s = cnt 63 a := by rw [← hs]; exact pd_cnt 63 n a ha
  have hq2 : size (pd 63 n (a + lb 63 a)) = cnt 63 (a + lb 63 a) := pd_cnt 63 n (a + lb 63 a) h1
  have hcar := cnt_car 63 a
  have hcc := pd_le 63 n (a + lb 63 a)
  have hor := pd_or 63 n (a + lb 63 a) (2 ^ (cnt 63 a - cnt 63 (a + lb 63 a)) - 1)
  unfold nxt at h2
  rw [h2, ht] at hor
  have hyl := pd_le 63 n (2 ^ (cnt 63 a - cnt 63 (a + lb 63 a)) - 1)
  have hcs : cnt 63 a ≤ size n := cnt_bits 63 (size n) a ha
  have hp63 : cnt 63 a ≤ 63 := cnt_le 63 a
  generalize lb 63 s = L at *
  generalize pd 63 n (a + lb 63 a) = cc at *
  generalize cnt 63 (a + lb 63 a) = q at *
  generalize cnt 63 a = p at *
  clear h0 h1 h2 h3 ha hs hlow
  have hor2 := i64_or cc (pd 63 n (2 ^ (p - q) - 1)) (Nat.lt_of_le_of_lt hcc hn) (Nat.lt_of_le_of_lt hyl hn)
  rw [hor] at hor2
  have hd : p - q ≤ size n := Nat.le_trans (Nat.sub_le _ _) hcs
  have hsz : size n ≤ 63 := cnt_le 63 n
  have hpq : (p : Int) - (q : Int) = ((p - q : Nat) : Int) := by omega
  have hw : wrap64 (-1 - ((n : Int) - (s : Int)) + (L : Int)) = -1 - ((n : Int) - (s : Int)) + (L : Int) := by unfold wrap64; omega
  exact ⟨-1 - (n : Int), -1 - ((n : Int) - (s : Int)), L, cc, _, p, q, p - q, ⟨hs0, hsn⟩, ⟨by omega, by omega⟩, ⟨by omega, by omega⟩, by omega, hcc, hyl, hp63, hcar, by omega, hpq, hw, hx, ho, hl, hc, hq, hq2, hd, rfl, hor2⟩
set_option maxHeartbeats 1000000 in
theorem following_e (n a b s t : Nat) (hn : n < 9223372036854775808) (hs : pd 63 n a = s) (hr : Nx (size n) a b) (ht : pd 63 n b = t) (w : World) :
    Calls Tryd.prog 47 #[.int .i64 n, .int .i64 s] w fun e w' => e = .returned (.int .i64 t) ∧ w = w' := by
  obtain ⟨X, Y, L, cc, y, p, q, d, ⟨hs0, hsn⟩, hX, hY, hL, hcc, hy, hp, hqp, hd, hpq, hw, hx, ho, hl, hc, hsp, hsq, hdn, hyy, hor⟩ := fol_pure n a b s t hn hs hr ht
  have HS := Lib.hid (fun w => size_e s p (by omega) hsp w)
  have HQ := Lib.hid (fun w => size_e cc q (by omega) hsq w)
  have HL := Lib.hid (fun w => lowest_e n d y hn hdn hyy w)
  have HOR := Lib.hid hor
  clear hs hr ht hsp hsq hdn hyy hor
  go_enter Tryd.func47, Tryd.ntmps47
  go_wp2_with fail
  refine (HS.out _).mono ?_
  rintro e w' ⟨rfl, rfl⟩
  go_wp2_with fail
  refine (HQ.out _).mono ?_
  rintro e w' ⟨rfl, rfl⟩
  go_wp2_with fail
  refine (HL.out _).mono ?_
  rintro e w' ⟨rfl, rfl⟩
  go_wp2_with fail
  go_ret
  exact ⟨ret_int HOR.out, rfl⟩

theorem bin_row (n i : Nat) (h : i ≤ n) : (i + 1) * bin n (i + 1) = (n - i) * bin n i := by
  have h1 := bin_mul n i
  rw [bin_step] at h1
  obtain ⟨d, rfl⟩ : ∃ d, n = i + d := ⟨n - i, by omega⟩
  rw [show i + d - i = d by omega]
  grind
theorem bin_rise (n i : Nat) (h : i + 1 ≤ n - i) : bin n i ≤ bin n (i + 1) := by
  have h1 := bin_row n i (by omega)
  have h2 : (i + 1) * bin n i ≤ (n - i) * bin n i := Nat.mul_le_mul_right _ h
  rw [← h1] at h2
  exact Nat.le_of_mul_le_mul_left h2 (by omega)
theorem bin_rises (n i : Nat) : ∀ d, i + d ≤ n - (i + d) → bin n i ≤ bin n (i + d)
  | 0, _ => Nat.le_refl _
  | d + 1, h => Nat.le_trans (bin_rises n i d (by omega)) (bin_rise n (i + d) (by omega))
/-- an answer that stands for how many choices there are -/
def ChP (n k : Nat) (v : Value) : Prop := ∃ c : Nat, v = .int .i64 c ∧ c ≤ 1000000 ∧ (bin n k ≤ 8192 → c = bin n k) ∧ (8192 < bin n k → 8192 < c)
set_option maxHeartbeats 1000000 in
theorem choices_a (n k : Nat) (hn : n ≤ 63) (hkn : k ≤ n) (hk : k ≤ n - k) (w : World) :
    Calls Tryd.prog 34 #[.int .i64 n, .int .i64 k] w fun e w' => (∃ v, e = .returned v ∧ ChP n k v) ∧ w = w' := by
  have HB : Hid (∀ x, x = bin n k → x = bin n k) := fun _ h => h
  have hmin : (k : Int) ≤ (n : Int) - (k : Int) := by omega
  have h0 : Hid (1 = bin n 0) := (bin_zero n).symm
  go_enter Tryd.func34, Tryd.ntmps34
  go_wp2_with fail
  go_loop [5, 12] (fun s v => ∃ i o : Nat, i ≤ k ∧ v = .int .i64 i ∧ s = .int .i64 o ∧ o ≤ 8192 ∧ Hid (o = bin n i)) (fun _ v => k - (intOf v).toNat)
  case atStart => exact ⟨0, 1, Nat.zero_le _, rfl, rfl, by omega, h0⟩
  case round =>
    clear h0
    obtain ⟨i, o, hi, rfl, rfl, ho, HO⟩ := hrel
    by_cases hlt : i < k
    · have h1 := bin_row n i (by omega)
      rw [← HO.out] at h1
      obtain ⟨t, ht⟩ : ∃ t, (n - i) * o = t := ⟨_, rfl⟩
      have htb : t ≤ 63 * 8192 := by rw [← ht]; exact Nat.mul_le_mul (by omega) ho
      have e0 : (o : Int) * ((n : Int) - (i : Int)) = (t : Int) := by
        rw [show (n : Int) - (i : Int) = ((n - i : Nat) : Int) by omega, ← Int.natCast_mul, Nat.mul_comm, ht]
      obtain ⟨q, hq⟩ : ∃ q, bin n (i + 1) = q := ⟨_, rfl⟩
      rw [ht, hq] at h1
      have hq2 : t / (i + 1) = q := by rw [← h1, Nat.mul_div_cancel_left _ (by omega)]
      have e1 : ((t : Int).tdiv ((i : Int) + 1)) = (q : Int) := by
        rw [Int.tdiv_eq_ediv_of_nonneg (by omega), show (i : Int) + 1 = ((i + 1 : Nat) : Int) by omega, ← hq2]; simp
      have hqb : q ≤ 63 * 8192 := by rw [← hq2]; exact Nat.le_trans (Nat.div_le_self _ _) htb
      have HQ : Hid (q = bin n (i + 1)) := hq.symm
      have HUP : Hid (bin n (i + 1) ≤ bin n k) := by
        have := bin_rises n (i + 1) (k - (i + 1)) (by omega)
        rwa [show i + 1 + (k - (i + 1)) = k by omega] at this
      clear h1 ht hq hq2
      by_cases hbig : 8192 < q
      · have HP : ChP n k (.int .i64 q) := by
          refine ⟨q, rfl, by omega, fun h => ?_, fun _ => hbig⟩
          have h2 := HUP.out
          rw [HB.out _ rfl, ← HQ.out] at h2; omega
        go_wp2_with fail
        go_ret
        exact ⟨⟨_, rfl, HP⟩, rfl⟩
      · go_wp2_with fail
        go_round
        case rel => exact ⟨i + 1, q, by omega, by go_num, rfl, by omega, HQ⟩
        case measure => simp [intOf]; omega
    · have hi' : i = k := by omega
      have hob : o = bin n k := HB.out o (hi' ▸ HO.out)
      have HP : ChP n k (.int .i64 o) := ⟨o, rfl, by omega, fun _ => hob, fun h => by omega⟩
      clear hob
      subst hi'
      go_wp2_with fail
      go_ret
      exact ⟨⟨_, rfl, HP⟩, rfl⟩
set_option maxHeartbeats 1000000 in
theorem choices_b (n k m : Nat) (hn : n ≤ 63) (hkn : k ≤ n) (hk : m < k) (hm : n = m + k) (w : World) :
    Calls Tryd.prog 34 #[.int .i64 n, .int .i64 k] w fun e w' => (∃ v, e = .returned v ∧ ChP n k v) ∧ w = w' := by
  have hbm : bin n m = bin n k := by have := bin_symm n k hkn; rwa [show n - k = m by omega] at this
  have HB : Hid (∀ x, x = bin n m → x = bin n k) := fun _ h => h.trans hbm
  have hnk : (n : Int) - (k : Int) = (m : Int) := by omega
  have hmin : ¬ (k : Int) ≤ (m : Int) := by omega
  have hmn : m ≤ n - m := by omega
  clear hm hbm
  have h0 : Hid (1 = bin n 0) := (bin_zero n).symm
  go_enter Tryd.func34, Tryd.ntmps34
  go_wp2_with fail
  go_loop [5, 12] (fun s v => ∃ i o : Nat, i ≤ m ∧ v = .int .i64 i ∧ s = .int .i64 o ∧ o ≤ 8192 ∧ Hid (o = bin n i)) (fun _ v => m - (intOf v).toNat)
  case atStart => exact ⟨0, 1, Nat.zero_le _, rfl, rfl, by omega, h0⟩
  case round =>
    clear h0
    obtain ⟨i, o, hi, rfl, rfl, ho, HO⟩ := hrel
    by_cases hlt : i < m
    · have h1 := bin_row n i (by omega)
      rw [← HO.out] at h1
      obtain ⟨t, ht⟩ : ∃ t, (n - i) * o = t := ⟨_, rfl⟩
      have htb : t ≤ 63 * 8192 := by rw [← ht]; exact Nat.mul_le_mul (by omega) ho
      have e0 : (o : Int) * ((n : Int) - (i : Int)) = (t : Int) := by
        rw [show (n : Int) - (i : Int) = ((n - i : Nat) : Int) by omega, ← Int.natCast_mul, Nat.mul_comm, ht]
      obtain ⟨q, hq⟩ : ∃ q, bin n (i + 1) = q := ⟨_, rfl⟩
      rw [ht, hq] at h1
      have hq2 : t / (i + 1) = q := by rw [← h1, Nat.mul_div_cancel_left _ (by omega)]
      have e1 : ((t : Int).tdiv ((i : Int) + 1)) = (q : Int) := by
        rw [Int.tdiv_eq_ediv_of_nonneg (by omega), show (i : Int) + 1 = ((i + 1 : Nat) : Int) by omega, ← hq2]; simp
      have hqb : q ≤ 63 * 8192 := by rw [← hq2]; exact Nat.le_trans (Nat.div_le_self _ _) htb
      have HQ : Hid (q = bin n (i + 1)) := hq.symm
      have HUP : Hid (bin n (i + 1) ≤ bin n m) := by
        have := bin_rises n (i + 1) (m - (i + 1)) (by omega)
        rwa [show i + 1 + (m - (i + 1)) = m by omega] at this
      clear h1 ht hq hq2
      by_cases hbig : 8192 < q
      · have HP : ChP n k (.int .i64 q) := by
          refine ⟨q, rfl, by omega, fun h => ?_, fun _ => hbig⟩
          have h2 := HUP.out
          rw [HB.out _ rfl, ← HQ.out] at h2; omega
        go_wp2_with fail
        go_ret
        exact ⟨⟨_, rfl, HP⟩, rfl⟩
      · go_wp2_with fail
        go_round
        case rel => exact ⟨i + 1, q, by omega, by go_num, rfl, by omega, HQ⟩
        case measure => simp [intOf]; omega
    · have hi' : i = m := by omega
      have hob : o = bin n k := HB.out o (hi' ▸ HO.out)
      have HP : ChP n k (.int .i64 o) := ⟨o, rfl, by omega, fun _ => hob, fun h => by omega⟩
      clear hob
      subst hi'
      go_wp2_with fail
      go_ret
      exact ⟨⟨_, rfl, HP⟩, rfl⟩
theorem choices_n (n k : Nat) (hn : n ≤ 63) (hkn : k ≤ n) (w : World) :
    Calls Tryd.prog 34 #[.int .i64 n, .int .i64 k] w fun e w' => (∃ v, e = .returned v ∧ ChP n k v) ∧ w = w' := by
  by_cases h : k ≤ n - k
  · exact choices_a n k hn hkn h w
  · exact choices_b n k (n - k) hn hkn (by omega) (by omega) w

end Go.Proofs.YtpcdpljkgnpkoaaDoor.S

