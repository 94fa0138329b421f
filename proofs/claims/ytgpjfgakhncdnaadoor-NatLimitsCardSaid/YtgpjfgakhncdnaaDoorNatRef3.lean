/-
  DERIVED. The walks of the specification's less and times.
-/
import Derived.Test.YtgpjfgakhncdnaaDoorNatRef2
namespace Go.Proofs.YtgpjfgakhncdnaaDoor
open Go.RowKit

theorem refTrim_l (l : List UInt8) (u : Nat) (h : l.length ≤ 1000000000) (ht : trimL l = Lib.decDigits u) (w : World) :
    Calls Tryd.prog 37 #[.string ⟨l.toArray⟩] w fun e w' => e = .returned (.string (num u)) ∧ w = w' := by
  have := refTrim_any ⟨l.toArray⟩ w (by rw [Lib.size_eq]; exact h)
  refine this.mono ?_
  rintro e w' ⟨rfl, rfl⟩
  exact ⟨ret_str (by rw [num, ← ht]), rfl⟩
theorem refLetter_e (n : Int) (d : Nat) (h : n ≤ d) (h' : d ≤ n) (hd : d ≤ 9) (w : World) :
    Calls Tryd.prog 40 #[.int .i64 n] w fun e w' => e = .returned (.string ⟨#[dchr d]⟩) ∧ w = w' := by
  obtain rfl : n = d := by omega
  exact refLetter_any d (by omega) w

set_option maxHeartbeats 400000 in
theorem refLess_num (u v : Nat) (huv : v ≤ u) (w : World) (hu : (num u).size ≤ 1000000) (hv : (num v).size ≤ 1000000) :
    Calls Tryd.prog 35 #[.string (num u), .string (num v)] w fun e w' => e = .returned (.string (num (u - v))) ∧ w = w' := by
  have HU := Lib.hid (numS u)
  go_enter Tryd.func35, Tryd.ntmps35
  go_wp2_with fail
  go_loop [5, 6, 7] (fun o x i => ∃ (k c : Nat) (l : List UInt8), k ≤ (num u).size ∧ c ≤ 1 ∧ l.length ≤ k ∧ o = .string ⟨l.toArray⟩ ∧ x = .int .i64 c ∧ i = .int .i64 k ∧ Hid (c = cy (u - v) v k) ∧ Hid (l = padL k (u - v)))
    (fun _ _ i => (num u).size - (intOf i).toNat)
  case atStart => exact ⟨0, 0, [], Nat.zero_le _, by omega, Nat.le_refl _, rfl, rfl, rfl, (cy_zero _ _).symm, rfl⟩
  case round =>
    obtain ⟨k, c, l, hk, hc, hl, rfl, rfl, rfl, HC, HL⟩ := hrel
    by_cases hlt : k < (num u).size
    · obtain ⟨d1, hd1⟩ : ∃ d, u / 10 ^ k % 10 = d := ⟨_, rfl⟩
      obtain ⟨d2, hd2⟩ : ∃ d, v / 10 ^ k % 10 = d := ⟨_, rfl⟩
      obtain ⟨dw, hdw⟩ : ∃ d, (u - v) / 10 ^ k % 10 = d := ⟨_, rfl⟩
      have b1 : d1 ≤ 9 := by omega
      have b2 : d2 ≤ 9 := by omega
      have b3 : dw ≤ 9 := by omega
      have hst := bw_step u v k huv
      have hc1 := cy_le (u - v) v (k + 1)
      rw [hd1, hd2, hdw, ← HC.out] at hst
      have HL2 : Hid (dchr dw :: l = padL (k + 1) (u - v)) := by
        show _ = _; rw [HL.out]; exact padL_cons _ _ _ hdw
      have H1 := Lib.hid hd1
      have H2 := Lib.hid hd2
      clear hd1 hd2 hdw huv
      by_cases hneg : d1 < d2 + c
      · have HC2 : Hid (1 = cy (u - v) v (k + 1)) := by show _ = _; omega
        have g1 : (d1 : Int) - d2 - c + 10 ≤ dw := by omega
        have g2 : (dw : Int) ≤ d1 - d2 - c + 10 := by omega
        have g3 : (d1 : Int) - d2 - c < 0 := by omega
        clear hst hc1 hneg
        go_wp2_with (first
          | (go_at_call 47; with_reducible refine (refDigit_d u k d1 H1 _ (by omega) (by omega)).mono ?_; rintro e w' ⟨rfl, rfl⟩)
          | (go_at_call 47; with_reducible refine (refDigit_d v k d2 H2 _ (by omega) (by omega)).mono ?_; rintro e w' ⟨rfl, rfl⟩)
          | (go_at_call 40; with_reducible refine (refLetter_e _ dw (by omega) (by omega) b3 _).mono ?_; rintro e w' ⟨rfl, rfl⟩))
        go_round
        case rel => exact ⟨k + 1, 1, _, by omega, by omega, by simpa using hl, cat1 _ _, rfl, by go_num, HC2, HL2⟩
        case measure => simp [intOf]; omega
      · have HC2 : Hid (0 = cy (u - v) v (k + 1)) := by show _ = _; omega
        have g1 : (d1 : Int) - d2 - c ≤ dw := by omega
        have g2 : (dw : Int) ≤ d1 - d2 - c := by omega
        have g3 : ¬ (d1 : Int) - d2 - c < 0 := by omega
        clear hst hc1 hneg
        go_wp2_with (first
          | (go_at_call 47; with_reducible refine (refDigit_d u k d1 H1 _ (by omega) (by omega)).mono ?_; rintro e w' ⟨rfl, rfl⟩)
          | (go_at_call 47; with_reducible refine (refDigit_d v k d2 H2 _ (by omega) (by omega)).mono ?_; rintro e w' ⟨rfl, rfl⟩)
          | (go_at_call 40; with_reducible refine (refLetter_e _ dw (by omega) (by omega) b3 _).mono ?_; rintro e w' ⟨rfl, rfl⟩))
        go_round
        case rel => exact ⟨k + 1, 0, _, by omega, by omega, by simpa using hl, cat1 _ _, rfl, by go_num, HC2, HL2⟩
        case measure => simp [intOf]; omega
    · obtain ⟨j, hj⟩ : ∃ j, k = j + 1 := ⟨k - 1, by have := nd_pos u; have := HU.out; omega⟩
      have HR := Lib.hid (show trimL l = Lib.decDigits (u - v) by
        rw [HL.out, hj]
        apply trim_pad
        have := lt_pow_of_nd (u := u) (k := j + 1) (by rw [← HU.out]; omega)
        omega)
      clear hj
      go_wp2_with (go_at_call 37; with_reducible refine (refTrim_l _ (u - v) (by omega) HR.out _).mono ?_; rintro e w' ⟨rfl, rfl⟩)
      go_ret
      exact ⟨rfl, rfl⟩

theorem num_zero : (⟨#[48]⟩ : ByteArray) = num 0 := by rw [num, dec_small (by omega)]; rfl

set_option maxHeartbeats 400000 in
theorem refTimes_num (u n : Nat) (hn : n ≤ 9) (w : World) (hu : (num u).size ≤ 100000) :
    Calls Tryd.prog 38 #[.string (num u), .int .i64 n] w fun e w' => e = .returned (.string (num (n * u))) ∧ w = w' := by
  have hs : ∀ i, i ≤ 10 → (num (i * u)).size ≤ 1000000 := by
    intro i hi
    have h1 := nd_mul i u 2 _ (nd_le i 1 (by omega)) (Nat.le_refl _)
    have := numS u
    rw [numS]; omega
  have HS := Lib.hid hs
  clear hs
  go_enter Tryd.func38, Tryd.ntmps38
  go_wp2_with fail
  go_loop [5, 6] (fun o i => ∃ k : Nat, k ≤ n ∧ o = .string (num (k * u)) ∧ i = .int .i64 k)
    (fun _ i => n - (intOf i).toNat)
  case atStart => exact ⟨0, Nat.zero_le _, by rw [Nat.zero_mul, num_zero], rfl⟩
  case round =>
    obtain ⟨k, hk, rfl, rfl⟩ := hrel
    have hks := HS.out k (by omega)
    by_cases hlt : k < n
    · go_wp2_with (go_at_call 33; with_reducible refine (refSum_num (k * u) u _ (by omega) (by omega)).mono ?_; rintro e w' ⟨rfl, rfl⟩)
      go_round
      case rel => exact ⟨k + 1, by omega, by rw [Nat.add_mul, Nat.one_mul], by go_num⟩
      case measure => simp [intOf]; omega
    · obtain rfl : k = n := by omega
      go_wp2_with fail
      go_ret
      exact ⟨rfl, rfl⟩

end Go.Proofs.YtgpjfgakhncdnaaDoor
