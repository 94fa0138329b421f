/-
  DERIVED. The walks of the specification's sized, Add, Sub and Mul.
-/
import Derived.Test.YtgpjfgakhncdnaaDoorNatRef3
namespace Go.Proofs.YtgpjfgakhncdnaaDoor
open Go.RowKit

theorem ret_two {a c : ByteArray} {x y : Int} (h : a = c) (h' : x = y) : Ending.returned (.tuple #[.string a, .int .i64 x]) = .returned (.tuple #[.string c, .int .i64 y]) := by rw [h, h']
theorem refSized_ok (s : ByteArray) (h : s.size ≤ 4096) (w : World) :
    Calls Tryd.prog 32 #[.string s] w fun e w' => e = .returned (.tuple #[.string s, .int .i64 0]) ∧ w = w' := by
  go_enter Tryd.func32, Tryd.ntmps32
  go_wp2_with fail
  go_ret2
  exact ⟨rfl, rfl⟩
theorem refSized_over (s : ByteArray) (h : 4096 < s.size) (hs : s.size ≤ 1000000000) (w : World) :
    Calls Tryd.prog 32 #[.string s] w fun e w' => e = .returned (.tuple #[.string ⟨#[]⟩, .int .i64 4]) ∧ w = w' := by
  go_enter Tryd.func32, Tryd.ntmps32
  go_wp2_with fail
  go_ret2
  exact ⟨rfl, rfl⟩

theorem refWrong_e (a b : ByteArray) (x : Int) (hx : Hid (wrongL a.data.toList b.data.toList = x)) (w : World) (ha : a.size ≤ 1000000000) (hb : b.size ≤ 1000000000) :
    Calls Tryd.prog 31 #[.string a, .string b] w fun e w' => e = .returned (.int .i64 x) ∧ w = w' := by
  have := refWrong_any a b w ha hb
  rwa [hx.out] at this
theorem wrong_num (u v : Nat) (hu : (num u).size ≤ 4096) (hv : (num v).size ≤ 4096) : wrongL (num u).data.toList (num v).data.toList = 0 := by
  rw [wrongL, num_data, num_data, right_num, right_num, if_neg (by simp), if_neg (by rw [num_size] at hu hv; omega)]
theorem refWrong_num (u v : Nat) (w : World) (hu : (num u).size ≤ 4096) (hv : (num v).size ≤ 4096) :
    Calls Tryd.prog 31 #[.string (num u), .string (num v)] w fun e w' => e = .returned (.int .i64 0) ∧ w = w' :=
  refWrong_e _ _ 0 (wrong_num u v hu hv) w (by omega) (by omega)

/-! ### Add -/
theorem refAdd_bad (a b : ByteArray) (x : Int) (hx : Hid (wrongL a.data.toList b.data.toList = x)) (hx0 : (x != 0) = true) (w : World) (ha : a.size ≤ 1000000000) (hb : b.size ≤ 1000000000) :
    Calls Tryd.prog 15 #[.string a, .string b] w fun e w' => e = .returned (.tuple #[.string ⟨#[]⟩, .int .i64 x]) ∧ w = w' := by
  go_enter Tryd.func15, Tryd.ntmps15
  go_wp2_with (go_at_call 31; with_reducible refine (refWrong_e _ _ x hx _ ha hb).mono ?_; rintro e w' ⟨rfl, rfl⟩)
  go_ret2
  exact ⟨rfl, rfl⟩
theorem refAdd_num (u v : Nat) (w : World) (hu : (num u).size ≤ 4096) (hv : (num v).size ≤ 4096) (h : (num (u + v)).size ≤ 4096) :
    Calls Tryd.prog 15 #[.string (num u), .string (num v)] w fun e w' => e = .returned (.tuple #[.string (num (u + v)), .int .i64 0]) ∧ w = w' := by
  go_enter Tryd.func15, Tryd.ntmps15
  go_wp2_with (first
    | (go_at_call 31; with_reducible refine (refWrong_num u v _ hu hv).mono ?_; rintro e w' ⟨rfl, rfl⟩)
    | (go_at_call 33; with_reducible refine (refSum_num u v _ (by omega) (by omega)).mono ?_; rintro e w' ⟨rfl, rfl⟩)
    | (go_at_call 32; with_reducible refine (refSized_ok _ h _).mono ?_; rintro e w' ⟨rfl, rfl⟩))
  go_ret2
  exact ⟨rfl, rfl⟩
theorem refAdd_over (u v : Nat) (w : World) (hu : (num u).size ≤ 4096) (hv : (num v).size ≤ 4096) (h : 4096 < (num (u + v)).size) :
    Calls Tryd.prog 15 #[.string (num u), .string (num v)] w fun e w' => e = .returned (.tuple #[.string ⟨#[]⟩, .int .i64 4]) ∧ w = w' := by
  have hz : (num (u + v)).size ≤ 1000000000 := by
    have := nd_add u v 4096 (by rw [← numS]; exact hu) (by rw [← numS]; exact hv)
    rw [numS]; omega
  go_enter Tryd.func15, Tryd.ntmps15
  go_wp2_with (first
    | (go_at_call 31; with_reducible refine (refWrong_num u v _ hu hv).mono ?_; rintro e w' ⟨rfl, rfl⟩)
    | (go_at_call 33; with_reducible refine (refSum_num u v _ (by omega) (by omega)).mono ?_; rintro e w' ⟨rfl, rfl⟩)
    | (go_at_call 32; with_reducible refine (refSized_over _ h hz _).mono ?_; rintro e w' ⟨rfl, rfl⟩))
  go_ret2
  exact ⟨rfl, rfl⟩

/-! ### Sub -/
theorem refSub_bad (a b : ByteArray) (x : Int) (hx : Hid (wrongL a.data.toList b.data.toList = x)) (hx0 : (x != 0) = true) (w : World) (ha : a.size ≤ 1000000000) (hb : b.size ≤ 1000000000) :
    Calls Tryd.prog 17 #[.string a, .string b] w fun e w' => e = .returned (.tuple #[.string ⟨#[]⟩, .int .i64 x]) ∧ w = w' := by
  go_enter Tryd.func17, Tryd.ntmps17
  go_wp2_with (go_at_call 31; with_reducible refine (refWrong_e _ _ x hx _ ha hb).mono ?_; rintro e w' ⟨rfl, rfl⟩)
  go_ret2
  exact ⟨rfl, rfl⟩
theorem refCompare_c (u v : Nat) (c : Int) (hc : Hid (cmpN u v = c)) (w : World) (ha : (num u).size ≤ 1000000000) (hb : (num v).size ≤ 1000000000) :
    Calls Tryd.prog 13 #[.string (num u), .string (num v)] w fun e w' => e = .returned (.int .i64 c) ∧ w = w' := by
  have := refCompare_num u v w ha hb
  rwa [hc.out] at this
theorem cmp_ge {u v : Nat} (h : v ≤ u) : 0 ≤ cmpN u v := by rw [cmpN, if_neg (by omega)]; split <;> omega
theorem cmp_lt {u v : Nat} (h : u < v) : cmpN u v = -1 := by rw [cmpN, if_pos h]
theorem refSub_num (u v : Nat) (huv : v ≤ u) (w : World) (hu : (num u).size ≤ 4096) (hv : (num v).size ≤ 4096) :
    Calls Tryd.prog 17 #[.string (num u), .string (num v)] w fun e w' => e = .returned (.tuple #[.string (num (u - v)), .int .i64 0]) ∧ w = w' := by
  have h : (num (u - v)).size ≤ 4096 := by
    have := nd_mono (show u - v ≤ u by omega)
    rw [numS] at hu ⊢; omega
  obtain ⟨c, hc⟩ : ∃ c, cmpN u v = c := ⟨_, rfl⟩
  have hc0 : 0 ≤ c := by have := cmp_ge huv; omega
  have HC := Lib.hid hc
  clear hc
  go_enter Tryd.func17, Tryd.ntmps17
  go_wp2_with (first
    | (go_at_call 31; with_reducible refine (refWrong_num u v _ hu hv).mono ?_; rintro e w' ⟨rfl, rfl⟩)
    | (go_at_call 13; with_reducible refine (refCompare_c u v c HC _ (by omega) (by omega)).mono ?_; rintro e w' ⟨rfl, rfl⟩)
    | (go_at_call 35; with_reducible refine (refLess_num u v huv _ (by omega) (by omega)).mono ?_; rintro e w' ⟨rfl, rfl⟩)
    | (go_at_call 32; with_reducible refine (refSized_ok _ h _).mono ?_; rintro e w' ⟨rfl, rfl⟩))
  go_ret2
  exact ⟨rfl, rfl⟩
theorem refSub_less (u v : Nat) (huv : u < v) (w : World) (hu : (num u).size ≤ 4096) (hv : (num v).size ≤ 4096) :
    Calls Tryd.prog 17 #[.string (num u), .string (num v)] w fun e w' => e = .returned (.tuple #[.string ⟨#[]⟩, .int .i64 2]) ∧ w = w' := by
  have HC := Lib.hid (cmp_lt huv)
  go_enter Tryd.func17, Tryd.ntmps17
  go_wp2_with (first
    | (go_at_call 31; with_reducible refine (refWrong_num u v _ hu hv).mono ?_; rintro e w' ⟨rfl, rfl⟩)
    | (go_at_call 13; with_reducible refine (refCompare_c u v _ HC _ (by omega) (by omega)).mono ?_; rintro e w' ⟨rfl, rfl⟩))
  go_ret2
  exact ⟨rfl, rfl⟩

/-! ### Mul -/
theorem num_fwd (u k : Nat) (h : k < (num u).size) : (num u)[k].toNat = 48 + u / 10 ^ (nd u - 1 - k) % 10 := by
  have hl : (Lib.decDigits u).length = nd u := rfl
  have hg : (Lib.decDigits u).getD k 0 = (num u)[k] := by
    rw [List.getD_eq_getElem?_getD, List.getElem?_eq_getElem (by rw [hl, ← numS]; exact h)]; rfl
  rw [← hg, ← dig_fwd u k (by rw [← numS]; exact h)]
theorem num_cat (r d : Nat) : num r ++ ⟨#[dchr d]⟩ = ⟨(Lib.decDigits r ++ [dchr d]).toArray⟩ := cat_str _ [dchr d]
theorem refTrim_x (r d : Nat) (s : ByteArray) (hs : Hid (s = ⟨#[dchr d]⟩)) (hd : d < 10) (w : World) (hr : (num r).size ≤ 1000000) :
    Calls Tryd.prog 37 #[.string (num r ++ s)] w fun e w' => e = .returned (.string (num (10 * r + d))) ∧ w = w' := by
  rw [hs.out, num_cat]
  exact refTrim_l _ (10 * r + d) (by rw [num_size] at hr; simp; omega) (trim_snoc r d hd) w
theorem refTrim_0 (r : Nat) (w : World) (hr : (num r).size ≤ 1000000) :
    Calls Tryd.prog 37 #[.string (num r ++ ⟨#[48]⟩)] w fun e w' => e = .returned (.string (num (10 * r))) ∧ w = w' :=
  refTrim_x r 0 _ rfl (by omega) w hr
theorem refTimes_e (u : Nat) (n : Int) (d : Nat) (h : n ≤ d) (h' : d ≤ n) (hd : d ≤ 9) (w : World) (hu : (num u).size ≤ 100000) :
    Calls Tryd.prog 38 #[.string (num u), .int .i64 n] w fun e w' => e = .returned (.string (num (d * u))) ∧ w = w' := by
  obtain rfl : n = d := by omega
  exact refTimes_num u d hd w hu
theorem pre_le (u k : Nat) : pre u k ≤ u := Nat.div_le_self _ _
theorem size_mul (u v j k : Nat) (hu : nd u ≤ j) (hv : nd v ≤ k) : (num (u * v)).size ≤ j + k := by rw [numS]; exact nd_mul u v j k hu hv

theorem refMul_bad (a b : ByteArray) (x : Int) (hx : Hid (wrongL a.data.toList b.data.toList = x)) (hx0 : (x != 0) = true) (w : World) (ha : a.size ≤ 1000000000) (hb : b.size ≤ 1000000000) :
    Calls Tryd.prog 19 #[.string a, .string b] w fun e w' => e = .returned (.tuple #[.string ⟨#[]⟩, .int .i64 x]) ∧ w = w' := by
  go_enter Tryd.func19, Tryd.ntmps19
  go_wp2_with (go_at_call 31; with_reducible refine (refWrong_e _ _ x hx _ ha hb).mono ?_; rintro e w' ⟨rfl, rfl⟩)
  go_ret2
  exact ⟨rfl, rfl⟩

set_option maxHeartbeats 400000 in
theorem refMul_num (u v : Nat) (w : World) (hu : (num u).size ≤ 4096) (hv : (num v).size ≤ 4096) (h : (num (u * v)).size ≤ 4096) :
    Calls Tryd.prog 19 #[.string (num u), .string (num v)] w fun e w' => e = .returned (.tuple #[.string (num (u * v)), .int .i64 0]) ∧ w = w' := by
  have HV := Lib.hid (numS v)
  have hS : ∀ k, (num (u * pre v k)).size ≤ 10000 ∧ (num (10 * (u * pre v k))).size ≤ 10010 := by
    intro k
    have h1 := nd_mono (pre_le v k)
    rw [numS] at hu hv
    have h2 := size_mul u (pre v k) 4096 4096 hu (by omega)
    have h3 := size_mul 10 (u * pre v k) 2 10000 (nd_le 10 1 (by omega)) (by rw [← numS]; omega)
    omega
  have HS := Lib.hid hS
  clear hS
  go_enter Tryd.func19, Tryd.ntmps19
  go_wp2_with (go_at_call 31; with_reducible refine (refWrong_num u v _ hu hv).mono ?_; rintro e w' ⟨rfl, rfl⟩)
  go_loop [7, 8] (fun o i => ∃ k : Nat, k ≤ (num v).size ∧ o = .string (num (u * pre v k)) ∧ i = .int .i64 k)
    (fun _ i => (num v).size - (intOf i).toNat)
  case atStart => exact ⟨0, Nat.zero_le _, by rw [pre_zero, Nat.mul_zero, num_zero], rfl⟩
  case round =>
    obtain ⟨k, hk, rfl, rfl⟩ := hrel
    obtain ⟨hs1, hs2⟩ := HS.out k
    by_cases hlt : k < (num v).size
    · obtain ⟨d, hd⟩ : ∃ d, v / 10 ^ (nd v - 1 - k) % 10 = d := ⟨_, rfl⟩
      have hd9 : d ≤ 9 := by omega
      have hf := num_fwd v k hlt
      rw [hd] at hf
      have hx1 : (num v)[k].toNat ≤ 48 + d := by omega
      have hx2 : 48 + d ≤ (num v)[k].toNat := by omega
      have HP : Hid (10 * (u * pre v k) + d * u = u * pre v (k + 1)) := by
        show _ = _
        rw [pre_succ v k (by rw [← HV.out]; exact hlt), hd, Nat.mul_add, Nat.mul_left_comm, Nat.mul_comm d u]
      have hs3 : (num (d * u)).size ≤ 10000 := by
        have := size_mul d u 1 4096 (nd_le d 0 (by omega)) (by rw [← numS]; exact hu)
        omega
      clear hf hd
      go_wp2_with (first
        | (go_at_call 37; with_reducible refine (refTrim_0 _ _ (by omega)).mono ?_; rintro e w' ⟨rfl, rfl⟩)
        | (go_at_call 38; with_reducible refine (refTimes_e u _ d (by omega) (by omega) hd9 _ (by omega)).mono ?_; rintro e w' ⟨rfl, rfl⟩)
        | (go_at_call 33; with_reducible refine (refSum_num _ _ _ (by omega) (by omega)).mono ?_; rintro e w' ⟨rfl, rfl⟩))
      go_round
      case rel => exact ⟨k + 1, by omega, by rw [HP.out], by go_num⟩
      case measure => simp [intOf]; omega
    · obtain rfl : k = (num v).size := by omega
      have HE : Hid (pre v (num v).size = v) := by show _ = _; rw [HV.out, pre_all]
      have HE2 : Hid ((num (u * pre v (num v).size)).size ≤ 4096) := by show _ ≤ _; rw [HE.out]; exact h
      go_wp2_with (go_at_call 32; with_reducible refine (refSized_ok _ HE2.out _).mono ?_; rintro e w' ⟨rfl, rfl⟩)
      go_ret2
      exact ⟨ret_two (by rw [HE.out]) rfl, rfl⟩

end Go.Proofs.YtgpjfgakhncdnaaDoor
