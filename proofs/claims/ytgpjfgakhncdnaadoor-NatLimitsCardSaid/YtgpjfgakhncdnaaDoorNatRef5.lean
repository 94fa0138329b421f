/-
  DERIVED. The walks of the specification's Div and Gcd.
-/
import Derived.Test.YtgpjfgakhncdnaaDoorNatRef4
namespace Go.Proofs.YtgpjfgakhncdnaaDoor
open Go.RowKit

theorem ret_three {a b c d : ByteArray} {x y : Int} (h : a = c) (h1 : b = d) (h' : x = y) : Ending.returned (.tuple #[.string a, .string b, .int .i64 x]) = .returned (.tuple #[.string c, .string d, .int .i64 y]) := by rw [h, h1, h']
theorem refDiv_bad (a b : ByteArray) (x : Int) (hx : Hid (wrongL a.data.toList b.data.toList = x)) (hx0 : (x != 0) = true) (w : World) (ha : a.size ≤ 1000000000) (hb : b.size ≤ 1000000000) :
    Calls Tryd.prog 21 #[.string a, .string b] w fun e w' => e = .returned (.tuple #[.string ⟨#[]⟩, .string ⟨#[]⟩, .int .i64 x]) ∧ w = w' := by
  go_enter Tryd.func21, Tryd.ntmps21
  go_wp2_with (go_at_call 31; with_reducible refine (refWrong_e _ _ x hx _ ha hb).mono ?_; rintro e w' ⟨rfl, rfl⟩)
  go_ret3
  exact ⟨rfl, rfl⟩
theorem zero_eq (v : Nat) : ((num v).toList == [48]) = decide (v = 0) := by
  rw [← eq_num v 0, ← num_zero, ByteArray.toList_eq ⟨#[48]⟩]
theorem refDiv_zero (u : Nat) (w : World) (hu : (num u).size ≤ 4096) :
    Calls Tryd.prog 21 #[.string (num u), .string (num 0)] w fun e w' => e = .returned (.tuple #[.string ⟨#[]⟩, .string ⟨#[]⟩, .int .i64 10]) ∧ w = w' := by
  have h0 : (num 0).size ≤ 4096 := by rw [← num_zero]; decide
  have hz := zero_eq 0
  rw [decide_eq_true rfl] at hz
  go_enter Tryd.func21, Tryd.ntmps21
  go_wp2_with (go_at_call 31; with_reducible refine (refWrong_num u 0 _ hu h0).mono ?_; rintro e w' ⟨rfl, rfl⟩)
  go_ret3
  exact ⟨rfl, rfl⟩
theorem refLetter_cat (l : List UInt8) (n : Nat) : (⟨l.toArray⟩ : ByteArray) ++ ⟨#[dchr n]⟩ = ⟨(l ++ [dchr n]).toArray⟩ := cat_str l [dchr n]
theorem padL_app (k Q n q : Nat) (hn : n < 10) (hq : q = 10 * Q + n) : padL k Q ++ [dchr n] = padL (k + 1) q := by
  subst hq
  rw [padL_snoc, show (10 * Q + n) / 10 = Q by omega, show (10 * Q + n) % 10 = n by omega]; rfl
theorem ext_one (u k : Nat) (h : k < (num u).size) : (num u).extract k (k + 1) = ⟨#[dchr (u / 10 ^ (nd u - 1 - k) % 10)]⟩ := by
  have hf := num_fwd u k h
  have e : dchr (u / 10 ^ (nd u - 1 - k) % 10) = (num u)[k] := by
    apply UInt8.toNat_inj.1
    rw [hf, dchr, toNat_digit _ (by omega)]
  rw [e]
  apply ByteArray.ext
  apply Array.toList_inj.1
  rw [Lib.extract_data, getD_drop0' _ k h, Nat.add_sub_cancel_left]; rfl

set_option maxHeartbeats 800000 in
theorem refDiv_num (u v : Nat) (hv0 : 0 < v) (w : World) (hu : (num u).size ≤ 4096) (hv : (num v).size ≤ 4096) :
    Calls Tryd.prog 21 #[.string (num u), .string (num v)] w fun e w' => e = .returned (.tuple #[.string (num (u / v)), .string (num (u % v)), .int .i64 0]) ∧ w = w' := by
  have HU := Lib.hid (numS u)
  have hz := zero_eq v
  rw [decide_eq_false (by omega)] at hz
  have hS : ∀ r, r < 10 * v → (num r).size ≤ 5000 := by
    intro r hr
    have h1 := nd_mono (Nat.le_of_lt hr)
    have h2 := nd_mul 10 v 2 4096 (nd_le 10 1 (by omega)) (by rw [← numS]; exact hv)
    rw [numS]; omega
  have HS := Lib.hid hS
  clear hS
  go_enter Tryd.func21, Tryd.ntmps21
  go_wp2_with (go_at_call 31; with_reducible refine (refWrong_num u v _ hu hv).mono ?_; rintro e w' ⟨rfl, rfl⟩)
  go_loop [8, 9, 10] (fun q r i => ∃ (k : Nat) (l : List UInt8), k ≤ (num u).size ∧ l.length ≤ k ∧ q = .string ⟨l.toArray⟩ ∧ r = .string (num (pre u k % v)) ∧ i = .int .i64 k ∧ Hid (l = padL k (pre u k / v)))
    (fun _ _ i => (num u).size - (intOf i).toNat)
  case atStart => exact ⟨0, [], Nat.zero_le _, Nat.le_refl _, rfl, by rw [pre_zero, Nat.zero_mod, num_zero], rfl, rfl⟩
  case round =>
    obtain ⟨k, l, hk, hl, rfl, rfl, rfl, HL⟩ := hrel
    by_cases hlt : k < (num u).size
    · obtain ⟨d, hd⟩ : ∃ d, u / 10 ^ (nd u - 1 - k) % 10 = d := ⟨_, rfl⟩
      have hd9 : d < 10 := by omega
      have hx := ext_one u k hlt
      rw [hd] at hx
      have HX := Lib.hid hx
      obtain ⟨r, hr⟩ : ∃ r, pre u k % v = r := ⟨_, rfl⟩
      have hr1 : r < v := by rw [← hr]; exact Nat.mod_lt _ hv0
      have hps := pre_succ u k (by rw [← HU.out]; exact hlt)
      rw [hd] at hps
      have hdv := div_step (pre u k) v d hv0
      rw [← hps, hr] at hdv
      rw [hr]
      have hr2 := HS.out r (by omega)
      obtain ⟨x, hxx⟩ : ∃ x, 10 * r + d = x := ⟨_, rfl⟩
      have hx10 : x < 10 * v := by omega
      rw [hxx] at hdv
      have HXX := Lib.hid hxx
      have HDV := Lib.hid hdv
      clear hx hd hr hps hdv hxx
      go_wp2_with (go_at_call 37; with_reducible refine (refTrim_x r d _ HX hd9 _ (by omega)).mono ?_; rintro e w' ⟨rfl, rfl⟩)
      go_loop [9, 11] (fun r i => ∃ n : Nat, n ≤ 9 ∧ n * v ≤ x ∧ r = .string (num (x - n * v)) ∧ i = .int .i64 n)
        (fun _ i => 10 - (intOf i).toNat)
      case atStart => exact ⟨0, by omega, by omega, by rw [Nat.zero_mul, Nat.sub_zero, HXX.out], rfl⟩
      case round =>
        obtain ⟨n, hn, hnv, rfl, rfl⟩ := hrel
        have hs1 := HS.out (x - n * v) (by omega)
        obtain ⟨c, hc⟩ : ∃ c, cmpN (x - n * v) v = c := ⟨_, rfl⟩
        by_cases hge : v ≤ x - n * v
        · have hc0 : 0 ≤ c := by have := cmp_ge hge; omega
          have hm : (n + 1) * v = n * v + v := by rw [Nat.add_mul, Nat.one_mul]
          have hn1 : n + 1 ≤ 9 := by
            apply Decidable.byContradiction
            intro h9
            have : 10 * v ≤ (n + 1) * v := Nat.mul_le_mul_right _ (by omega)
            omega
          have hnv2 : (n + 1) * v ≤ x := by omega
          have HM : Hid (x - n * v - v = x - (n + 1) * v) := by show _ = _; omega
          have HC := Lib.hid hc
          clear hc hm
          go_wp2_with (first
            | (go_at_call 13; with_reducible refine (refCompare_c _ v c HC _ (by omega) (by omega)).mono ?_; rintro e w' ⟨rfl, rfl⟩)
            | (go_at_call 35; with_reducible refine (refLess_num _ v hge _ (by omega) (by omega)).mono ?_; rintro e w' ⟨rfl, rfl⟩))
          go_round
          case rel => exact ⟨n + 1, hn1, hnv2, by rw [HM.out], by go_num⟩
          case measure => simp [intOf]; omega
        · have hsq := small_quo x v n hnv (by omega)
          rw [cmp_lt (by omega)] at hc
          have HC : Hid (cmpN (x - n * v) v = -1) := cmp_lt (by omega)
          have HQ : Hid (l ++ [dchr n] = padL (k + 1) (pre u (k + 1) / v)) := by
            show _ = _
            rw [HL.out]
            exact padL_app k _ n _ (by omega) (by rw [HDV.out.1, hsq.1])
          have HR : Hid (x - n * v = pre u (k + 1) % v) := by show _ = _; rw [HDV.out.2, hsq.2]
          clear hc hsq
          go_wp2_with (first
            | (go_at_call 13; with_reducible refine (refCompare_c _ v (-1) HC _ (by omega) (by omega)).mono ?_; rintro e w' ⟨rfl, rfl⟩)
            | (go_at_call 40; with_reducible refine (refLetter_any n (by omega) _).mono ?_; rintro e w' ⟨rfl, rfl⟩))
          go_round
          case rel => exact ⟨k + 1, l ++ [dchr n], by omega, by simpa using hl, by rw [refLetter_cat], by rw [HR.out], by go_num, HQ⟩
          case measure => simp [intOf]; omega
    · obtain rfl : k = (num u).size := by omega
      have hp : pre u (num u).size = u := by rw [HU.out, pre_all]
      have HT := Lib.hid (show trimL l = Lib.decDigits (u / v) by
        rw [HL.out, hp]
        obtain ⟨j, hj⟩ : ∃ j, (num u).size = j + 1 := ⟨(num u).size - 1, by have := nd_pos u; have := HU.out; omega⟩
        rw [hj]
        apply trim_pad
        rw [← hj, HU.out]
        exact Nat.lt_of_le_of_lt (Nat.div_le_self _ _) (lt_nd u))
      have HP := Lib.hid hp
      clear hp
      go_wp2_with (go_at_call 37; with_reducible refine (refTrim_l _ (u / v) (by omega) HT.out _).mono ?_; rintro e w' ⟨rfl, rfl⟩)
      go_ret3
      exact ⟨ret_three rfl (by rw [HP.out]) rfl, rfl⟩

/-! ### Gcd -/
theorem refGcd_bad (a b : ByteArray) (x : Int) (hx : Hid (wrongL a.data.toList b.data.toList = x)) (hx0 : (x != 0) = true) (w : World) (ha : a.size ≤ 1000000000) (hb : b.size ≤ 1000000000) :
    Calls Tryd.prog 23 #[.string a, .string b] w fun e w' => e = .returned (.tuple #[.string ⟨#[]⟩, .int .i64 x]) ∧ w = w' := by
  go_enter Tryd.func23, Tryd.ntmps23
  go_wp2_with (go_at_call 31; with_reducible refine (refWrong_e _ _ x hx _ ha hb).mono ?_; rintro e w' ⟨rfl, rfl⟩)
  go_ret2
  exact ⟨rfl, rfl⟩
def valV : Value → Nat | .string s => valA 0 s.data.toList | _ => 0
theorem valV_num (u : Nat) : valV (.string (num u)) = u := dec_val u

set_option maxHeartbeats 400000 in
theorem refGcd_num (u v : Nat) (w : World) (hu : (num u).size ≤ 4096) (hv : (num v).size ≤ 4096) :
    Calls Tryd.prog 23 #[.string (num u), .string (num v)] w fun e w' => e = .returned (.tuple #[.string (num (Nat.gcd u v)), .int .i64 0]) ∧ w = w' := by
  go_enter Tryd.func23, Tryd.ntmps23
  go_wp2_with (go_at_call 31; with_reducible refine (refWrong_num u v _ hu hv).mono ?_; rintro e w' ⟨rfl, rfl⟩)
  go_loop [0, 1] (fun a b => ∃ x y : Nat, a = .string (num x) ∧ b = .string (num y) ∧ (num x).size ≤ 4096 ∧ (num y).size ≤ 4096 ∧ Hid (Nat.gcd x y = Nat.gcd u v))
    (fun _ b => valV b)
  case atStart => exact ⟨u, v, rfl, rfl, hu, hv, rfl⟩
  case round =>
    obtain ⟨x, y, rfl, rfl, hx, hy, HG⟩ := hrel
    by_cases h0 : y = 0
    · subst h0
      have HG2 : Hid (num x = num (Nat.gcd u v)) := by show _ = _; rw [← HG.out, Nat.gcd_zero_right]
      have hz := zero_eq 0
      rw [decide_eq_true rfl] at hz
      have hz2 : ((num 0).toList != [48]) = false := by rw [bne, hz]; rfl
      go_wp2_with fail
      go_ret2
      exact ⟨ret_two HG2.out rfl, rfl⟩
    · have hy0 : 0 < y := by omega
      have hz := zero_eq y
      rw [decide_eq_false h0] at hz
      have hz2 : ((num y).toList != [48]) = true := by rw [bne, hz]; rfl
      have hm : (num (x % y)).size ≤ 4096 := by
        have := nd_mono (Nat.le_of_lt (Nat.mod_lt x hy0))
        rw [numS] at hy ⊢; omega
      have HG2 : Hid (Nat.gcd y (x % y) = Nat.gcd u v) := by show _ = _; rw [← HG.out, Nat.gcd_comm x y, Nat.gcd_rec y x, Nat.gcd_comm]
      have HM : Hid (x % y < y) := Nat.mod_lt x hy0
      clear h0
      go_wp2_with (go_at_call 21; with_reducible refine (refDiv_num x y hy0 _ (by omega) (by omega)).mono ?_; rintro e w' ⟨rfl, rfl⟩)
      go_round
      case rel => exact ⟨y, x % y, rfl, rfl, hy, hm, HG2⟩
      case measure => rw [valV_num, valV_num]; exact HM.out

end Go.Proofs.YtgpjfgakhncdnaaDoor
