/-
  DERIVED. The walks of the specification's Right, Div and Gcd of layer 2. Extracted by mkref2.py.
-/
import Derived.Test.YthamlnolfagpiaaGreatDoorNatGen
import Derived.Test.YthamlnolfagpiaaGreatDoorBasePure
namespace Go.Proofs.YthamlnolfagpiaaGreatDoor
open Go.RowKit
set_option maxRecDepth 8000

set_option maxHeartbeats 400000 in
theorem refRight_any (s : ByteArray) (w : World) (hs : s.size ≤ 1000000000) :
    Calls Tryz.prog 42 #[.string s] w fun e w' => e = .returned (.bool (rightL s.data.toList)) ∧ w = w' := by
  by_cases hz : s.size = 0
  · have hs := empty_of s hz
    subst hs
    go_enter Tryz.func42, Tryz.ntmps42
    go_wp2
    go_ret
    exact ⟨rfl, rfl⟩
  have h0 : 0 < s.size := by omega
  have hz' : ((s.size : Int) == 0) = false := bneI (a := s.size) (b := 0) hz
  by_cases hb : 1 < s.size ∧ s[0].toNat = 48
  · obtain ⟨h1, h2⟩ := hb
    have HK : Hid (rightL s.data.toList = false) := right_zero _ (by rw [len_of]; exact h1) (by rw [head_of s h0]; exact h2)
    have h2' : ((s[0].toNat : Int) == 48) = true := beqI h2
    clear h2 hz
    go_enter Tryz.func42, Tryz.ntmps42
    go_wp2_with fail
    go_ret
    exact ⟨ret_bool HK.out.symm, rfl⟩
  have HR : Hid (rightL s.data.toList = digs s.data.toList) := right_len _ (by rw [len_of]; exact hz) (by
    rw [len_of, head_of s h0]
    by_cases h1 : s.size ≤ 1
    · exact Or.inl h1
    · exact Or.inr (fun e => hb ⟨by omega, e⟩))
  have hcase : s.size ≤ 1 ∨ (1 < s.size ∧ ((s[0].toNat : Int) == 48) = false) := by
    by_cases h1 : s.size ≤ 1
    · exact Or.inl h1
    · exact Or.inr ⟨by omega, bneI (fun e => hb ⟨by omega, e⟩)⟩
  clear hb hz
  rcases hcase with h1 | ⟨h1, h2⟩
  all_goals
    go_enter Tryz.func42, Tryz.ntmps42
    go_wp2_with fail
    go_loop [3] (fun i => ∃ k : Nat, k ≤ s.size ∧ i = .int .i64 k ∧ Hid ((s.data.toList.take k).all (fun c => dig c.toNat) = true)) (fun i => s.size - (intOf i).toNat)
    case atStart => exact ⟨0, Nat.zero_le _, rfl, by rw [List.take_zero]; rfl⟩
    case round =>
      obtain ⟨k, hk, rfl, HA⟩ := hrel
      by_cases hlt : k < s.size
      · cases hw : dig s[k].toNat
        · have HK : Hid (rightL s.data.toList = false) := by show _ = _; rw [HR.out]; exact all_stop s _ k hlt hw
          have hn : s[k].toNat < 48 ∨ (48 ≤ s[k].toNat ∧ 57 < s[k].toNat) := by
            apply Decidable.byContradiction
            intro h
            rw [show dig s[k].toNat = true by simp [dig]; omega] at hw; cases hw
          clear hw
          rcases hn with hn | ⟨hn, hn2⟩
          · go_wp2_with fail
            go_ret
            exact ⟨ret_bool HK.out.symm, rfl⟩
          · go_wp2_with fail
            go_ret
            exact ⟨ret_bool HK.out.symm, rfl⟩
        · have HA' := Lib.hid (all_step s (fun c => dig c.toNat) k hlt HA.out hw)
          have hd := dig_bd hw
          have hd1 := hd.1
          have hd2 := hd.2
          clear hw hd
          go_wp2_with fail
          go_round
          case rel => exact ⟨k + 1, by omega, by go_num, HA'⟩
          case measure => simp [intOf]; omega
      · have hk' : k = s.size := by omega
        subst hk'
        have HK : Hid (rightL s.data.toList = true) := by show _ = _; rw [HR.out]; exact all_end s _ HA.out
        go_wp2_with fail
        go_ret
        exact ⟨ret_bool HK.out.symm, rfl⟩
theorem refRight_num (u : Nat) (w : World) (hs : (num u).size ≤ 1000000000) :
    Calls Tryz.prog 42 #[.string (num u)] w fun e w' => e = .returned (.bool true) ∧ w = w' := by
  have := refRight_any (num u) w hs
  rwa [num_data, right_num] at this
set_option maxHeartbeats 400000 in
theorem refCompare_bad (a b : ByteArray) (w : World) (ha : a.size ≤ 1000000000) (hb : b.size ≤ 1000000000) (h : rightL a.data.toList = false ∨ rightL b.data.toList = false) :
    Calls Tryz.prog 111 #[.string a, .string b] w fun e w' => e = .returned (.int .i64 0) ∧ w = w' := by
  cases h1 : rightL a.data.toList
  · clear h
    go_enter Tryz.func111, Tryz.ntmps111
    go_wp2_with (go_at_call 42; refine (refRight_any _ _ (by omega)).mono ?_; rintro e w' ⟨rfl, rfl⟩)
    go_ret
    exact ⟨rfl, rfl⟩
  · have h2 : rightL b.data.toList = false := by rcases h with h | h; (rw [h] at h1; cases h1); exact h
    clear h
    go_enter Tryz.func111, Tryz.ntmps111
    go_wp2_with (go_at_call 42; refine (refRight_any _ _ (by omega)).mono ?_; rintro e w' ⟨rfl, rfl⟩)
    go_ret
    exact ⟨rfl, rfl⟩
set_option maxHeartbeats 400000 in
theorem refCompare_num (u v : Nat) (w : World) (ha : (num u).size ≤ 1000000000) (hb : (num v).size ≤ 1000000000) :
    Calls Tryz.prog 111 #[.string (num u), .string (num v)] w fun e w' => e = .returned (.int .i64 (cmpN u v)) ∧ w = w' := by
  have hsu : (num u).size = nd u := num_size u
  have hsv : (num v).size = nd v := num_size v
  have heq := eq_num u v
  rcases Nat.lt_trichotomy u v with h | h | h
  · have HK : Hid (cmpN u v = -1) := by show _ = _; rw [cmpN, if_pos h]
    rw [decide_eq_false (by omega)] at heq
    have hm := nd_mono (Nat.le_of_lt h)
    by_cases hn : nd u = nd v
    · have hbl := bl_num u v hn
      rw [decide_eq_true h] at hbl
      have hne : (((num u).size : Int) == ((num v).size : Int)) = true := by rw [hsu, hsv]; exact beqI hn
      have hlt : ¬ ((num u).size : Int) < ((num v).size : Int) := by omega
      clear hsu hsv hm hn h
      go_enter Tryz.func111, Tryz.ntmps111
      go_wp2_with (go_at_call 42; refine (refRight_num _ _ (by omega)).mono ?_; rintro e w' ⟨rfl, rfl⟩)
      go_ret
      exact ⟨ret_int HK.out.symm, rfl⟩
    · have hlt : (num u).size < (num v).size := by omega
      clear hsu hsv hm hn h
      go_enter Tryz.func111, Tryz.ntmps111
      go_wp2_with (go_at_call 42; refine (refRight_num _ _ (by omega)).mono ?_; rintro e w' ⟨rfl, rfl⟩)
      go_ret
      exact ⟨ret_int HK.out.symm, rfl⟩
  · have HK : Hid (cmpN u v = 0) := by show _ = _; rw [cmpN, if_neg (by omega), if_pos h]
    rw [decide_eq_true h] at heq
    clear hsu hsv h
    go_enter Tryz.func111, Tryz.ntmps111
    go_wp2_with (go_at_call 42; refine (refRight_num _ _ (by omega)).mono ?_; rintro e w' ⟨rfl, rfl⟩)
    go_ret
    exact ⟨ret_int HK.out.symm, rfl⟩
  · have HK : Hid (cmpN u v = 1) := by show _ = _; rw [cmpN, if_neg (by omega), if_neg (by omega)]
    rw [decide_eq_false (by omega)] at heq
    have hm := nd_mono (Nat.le_of_lt h)
    have hlt : (num v).size ≤ (num u).size := by omega
    by_cases hn : nd u = nd v
    · have hbl := bl_num u v hn
      rw [decide_eq_false (by omega)] at hbl
      have hne : (((num u).size : Int) == ((num v).size : Int)) = true := by rw [hsu, hsv]; exact beqI hn
      clear hsu hsv hm hn h
      go_enter Tryz.func111, Tryz.ntmps111
      go_wp2_with (go_at_call 42; refine (refRight_num _ _ (by omega)).mono ?_; rintro e w' ⟨rfl, rfl⟩)
      go_ret
      exact ⟨ret_int HK.out.symm, rfl⟩
    · have hne : (((num u).size : Int) == ((num v).size : Int)) = false := by rw [hsu, hsv]; exact bneI hn
      clear hsu hsv hm hn h
      go_enter Tryz.func111, Tryz.ntmps111
      go_wp2_with (go_at_call 42; refine (refRight_num _ _ (by omega)).mono ?_; rintro e w' ⟨rfl, rfl⟩)
      go_ret
      exact ⟨ret_int HK.out.symm, rfl⟩
set_option maxHeartbeats 400000 in
theorem refWrong_any (a b : ByteArray) (w : World) (ha : a.size ≤ 1000000000) (hb : b.size ≤ 1000000000) :
    Calls Tryz.prog 81 #[.string a, .string b] w fun e w' => e = .returned (.int .i64 (wrongL a.data.toList b.data.toList)) ∧ w = w' := by
  have HW : Hid (wrongL a.data.toList b.data.toList = if rightL a.data.toList = false ∨ rightL b.data.toList = false then 3 else if 4096 < a.size ∨ 4096 < b.size then 4 else 0) := by
    show _ = _; rw [wrongL, len_of, len_of]
  cases h1 : rightL a.data.toList
  · rw [h1] at HW
    go_enter Tryz.func81, Tryz.ntmps81
    go_wp2_with (go_at_call 42; refine (refRight_any _ _ (by omega)).mono ?_; rintro e w' ⟨rfl, rfl⟩)
    go_ret
    exact ⟨ret_int (by rw [HW.out]; simp), rfl⟩
  cases h2 : rightL b.data.toList
  · rw [h2] at HW
    go_enter Tryz.func81, Tryz.ntmps81
    go_wp2_with (go_at_call 42; refine (refRight_any _ _ (by omega)).mono ?_; rintro e w' ⟨rfl, rfl⟩)
    go_ret
    exact ⟨ret_int (by rw [HW.out]; simp), rfl⟩
  rw [h1, h2] at HW
  by_cases h3 : 4096 < a.size
  · go_enter Tryz.func81, Tryz.ntmps81
    go_wp2_with (go_at_call 42; refine (refRight_any _ _ (by omega)).mono ?_; rintro e w' ⟨rfl, rfl⟩)
    go_ret
    exact ⟨ret_int (by rw [HW.out]; simp [h3]), rfl⟩
  by_cases h4 : 4096 < b.size
  · go_enter Tryz.func81, Tryz.ntmps81
    go_wp2_with (go_at_call 42; refine (refRight_any _ _ (by omega)).mono ?_; rintro e w' ⟨rfl, rfl⟩)
    go_ret
    exact ⟨ret_int (by rw [HW.out]; simp [h4]), rfl⟩
  · go_enter Tryz.func81, Tryz.ntmps81
    go_wp2_with (go_at_call 42; refine (refRight_any _ _ (by omega)).mono ?_; rintro e w' ⟨rfl, rfl⟩)
    go_ret
    exact ⟨ret_int (by rw [HW.out]; simp [h3, h4]), rfl⟩
theorem letter_ex : ∀ n : Nat, n < 10 → (⟨#[48, 49, 50, 51, 52, 53, 54, 55, 56, 57]⟩ : ByteArray).extract n (n + 1) = ⟨#[dchr n]⟩ := by decide
theorem numS (u : Nat) : (num u).size = nd u := num_size u
theorem num_at (u k : Nat) (h : k < (num u).size) : ((num u)[(num u).size - 1 - k]'(by omega)).toNat = 48 + u / 10 ^ k % 10 := by
  have hS := numS u
  have hl : (Lib.decDigits u).length = nd u := rfl
  have hg : (Lib.decDigits u).getD ((num u).size - 1 - k) 0 = (num u)[(num u).size - 1 - k]'(by omega) := by
    rw [List.getD_eq_getElem?_getD, List.getElem?_eq_getElem (by omega)]; rfl
  rw [← hg, hS, ← dig_at u k (by omega)]
theorem refLetter_any (n : Nat) (hn : n < 10) (w : World) :
    Calls Tryz.prog 113 #[.int .i64 n] w fun e w' => e = .returned (.string ⟨#[dchr n]⟩) ∧ w = w' := by
  have HE := Lib.hid (letter_ex n hn)
  go_enter Tryz.func113, Tryz.ntmps113
  go_wp2_with fail
  go_ret
  exact ⟨ret_str HE.out, rfl⟩
theorem refDigit_num (u k : Nat) (w : World) (hs : (num u).size ≤ 1000000000) (hk : k ≤ 1000000000) :
    Calls Tryz.prog 137 #[.string (num u), .int .i64 k] w fun e w' => e = .returned (.int .i64 (u / 10 ^ k % 10 : Nat)) ∧ w = w' := by
  by_cases h : k < (num u).size
  · have HD := Lib.hid (num_at u k h)
    go_enter Tryz.func137, Tryz.ntmps137
    go_wp2_with fail
    go_ret
    exact ⟨ret_int (by have := HD.out; omega), rfl⟩
  · have HZ := Lib.hid (dig_over u k (by rw [← numS]; omega))
    go_enter Tryz.func137, Tryz.ntmps137
    go_wp2_with fail
    go_ret
    exact ⟨ret_int (by rw [HZ.out]; rfl), rfl⟩
theorem trimL_le : ∀ l : List UInt8, (trimL l).length ≤ l.length
  | [] => Nat.le_refl _
  | [_] => Nat.le_refl _
  | c :: d :: r => by
    rw [trimL]; split
    · have := trimL_le (d :: r); simp at this ⊢; omega
    · exact Nat.le_refl _
theorem trim_step (s : ByteArray) (h : 1 < s.size) (h2 : s[0].toNat = 48) : trimL (s.extract 1 s.size).data.toList = trimL s.data.toList := by
  rw [drop_ext]
  have h0 := getD_drop0' s 0 (by omega)
  have h1 := getD_drop0' s 1 (by omega)
  rw [List.drop_zero] at h0
  have h3 : s.data.toList = s[0] :: s[1] :: List.drop (1 + 1) s.data.toList := by rw [← h1]; exact h0
  rw [h1, h3, trimL, if_pos h2]; rfl
theorem trim_stop (s : ByteArray) (h : ¬ (1 < s.size ∧ ∃ h : 0 < s.size, s[0].toNat = 48)) : trimL s.data.toList = s.data.toList := by
  match hl : s.data.toList with
  | [] => rfl
  | [_] => rfl
  | c :: d :: r =>
    have hsz : s.size = r.length + 2 := by rw [← len_of, hl]; rfl
    rw [trimL, if_neg]
    intro hc
    apply h
    refine ⟨by omega, by omega, ?_⟩
    rw [← head_of s (by omega), hl]; exact hc
def sizeV : Value → Nat | .string s => s.size | _ => 0
set_option maxHeartbeats 400000 in
theorem refTrim_any (s : ByteArray) (w : World) (hs : s.size ≤ 1000000000) :
    Calls Tryz.prog 110 #[.string s] w fun e w' => e = .returned (.string ⟨(trimL s.data.toList).toArray⟩) ∧ w = w' := by
  go_enter Tryz.func110, Tryz.ntmps110
  go_wp2_with fail
  go_loop [0] (fun v => ∃ t : ByteArray, v = .string t ∧ t.size ≤ 1000000000 ∧ Hid (trimL t.data.toList = trimL s.data.toList)) (fun v => sizeV v)
  case atStart => exact ⟨s, rfl, hs, rfl⟩
  case round =>
    obtain ⟨t, rfl, ht, HT⟩ := hrel
    by_cases h : 1 < t.size ∧ ∃ h : 0 < t.size, t[0].toNat = 48
    · obtain ⟨h1, h0, h2⟩ := h
      have HT2 : Hid (trimL (t.extract 1 t.size).data.toList = trimL s.data.toList) := by show _ = _; rw [trim_step t h1 h2]; exact HT.out
      have h3 : ((t[0].toNat : Int) == 48) = true := beqI h2
      clear h2 HT
      go_wp2_with fail
      go_round
      case rel => exact ⟨_, rfl, by rw [ByteArray.size_extract]; omega, HT2⟩
      case measure => simp [sizeV, ByteArray.size_extract]; omega
    · have HR : Hid (t = ⟨(trimL s.data.toList).toArray⟩) := by
        show _ = _
        rw [← HT.out, trim_stop t h, Lib.mk_data]
      by_cases h1 : 1 < t.size
      · have h3 : ((t[0].toNat : Int) == 48) = false := bneI (fun e => h ⟨h1, by omega, e⟩)
        clear h HT
        go_wp2_with fail
        go_ret
        exact ⟨ret_str HR.out, rfl⟩
      · clear h HT
        go_wp2_with fail
        go_ret
        exact ⟨ret_str HR.out, rfl⟩
theorem refLetter_int (n : Int) (h0 : 0 ≤ n) (h1 : n ≤ 9) (w : World) :
    Calls Tryz.prog 113 #[.int .i64 n] w fun e w' => e = .returned (.string ⟨#[dchr n.toNat]⟩) ∧ w = w' := by
  have := refLetter_any n.toNat (by omega) w
  rwa [Int.toNat_of_nonneg h0] at this
theorem refDigit_d (u k d : Nat) (hd : Hid (u / 10 ^ k % 10 = d)) (w : World) (hs : (num u).size ≤ 1000000000) (hk : k ≤ 1000000000) :
    Calls Tryz.prog 137 #[.string (num u), .int .i64 k] w fun e w' => e = .returned (.int .i64 d) ∧ w = w' := by
  have := refDigit_num u k w hs hk
  rwa [hd.out] at this
theorem cat1 (c : UInt8) (s : List UInt8) : Value.string ((⟨#[c]⟩ : ByteArray) ++ ⟨s.toArray⟩) = .string ⟨(c :: s).toArray⟩ := by
  congr 1
theorem refTrim_l (l : List UInt8) (u : Nat) (h : l.length ≤ 1000000000) (ht : trimL l = Lib.decDigits u) (w : World) :
    Calls Tryz.prog 110 #[.string ⟨l.toArray⟩] w fun e w' => e = .returned (.string (num u)) ∧ w = w' := by
  have := refTrim_any ⟨l.toArray⟩ w (by rw [Lib.size_eq]; exact h)
  refine this.mono ?_
  rintro e w' ⟨rfl, rfl⟩
  exact ⟨ret_str (by rw [num, ← ht]), rfl⟩
theorem refLetter_e (n : Int) (d : Nat) (h : n ≤ d) (h' : d ≤ n) (hd : d ≤ 9) (w : World) :
    Calls Tryz.prog 113 #[.int .i64 n] w fun e w' => e = .returned (.string ⟨#[dchr d]⟩) ∧ w = w' := by
  obtain rfl : n = d := by omega
  exact refLetter_any d (by omega) w
set_option maxHeartbeats 400000 in
theorem refLess_num (u v : Nat) (huv : v ≤ u) (w : World) (hu : (num u).size ≤ 1000000) (hv : (num v).size ≤ 1000000) :
    Calls Tryz.prog 112 #[.string (num u), .string (num v)] w fun e w' => e = .returned (.string (num (u - v))) ∧ w = w' := by
  have HU := Lib.hid (numS u)
  go_enter Tryz.func112, Tryz.ntmps112
  go_wp2_with fail
  go_loop [5, 6, 7] (fun o x i => ∃ (k c : Nat) (l : List UInt8), k ≤ (num u).size ∧ c ≤ 1 ∧ l.length ≤ k ∧ o = .string ⟨l.toArray⟩ ∧ x = .int .i64 c ∧ i = .int .i64 k ∧ Hid (c = cy (u - v) v k) ∧ Hid (l = padL k (u - v)))
    (fun _ _ i => (num u).size - (intOf i).toNat)
  case atStart => exact ⟨0, 0, [], Nat.zero_le _, by omega, Nat.le_refl _, rfl, rfl, rfl, (cy_zero _ _).symm, rfl⟩
  case round =>
    obtain ⟨k, c, l, hk, hc, hl, rfl, rfl, rfl, HC, HL⟩ := hrel
    by_cases hlt : k < (num u).size
    · obtain ⟨d1, hd1⟩ : ∃ d, u / 10 ^ k % 10 = d := ⟨_, rfl⟩
      obtain ⟨d2, hd2⟩ : ∃ d, v / 10 ^ k % 10 = d := ⟨_, rfl⟩
      obtain ⟨dw, hdw⟩ : ∃ d, (u - v) / 10 ^ k % 10 = d := ⟨_, rfl⟩
      have b1 : d1 ≤ 9 := by omega
      have b2 : d2 ≤ 9 := by omega
      have b3 : dw ≤ 9 := by omega
      have hst := bw_step u v k huv
      have hc1 := cy_le (u - v) v (k + 1)
      rw [hd1, hd2, hdw, ← HC.out] at hst
      have HL2 : Hid (dchr dw :: l = padL (k + 1) (u - v)) := by
        show _ = _; rw [HL.out]; exact padL_cons _ _ _ hdw
      have H1 := Lib.hid hd1
      have H2 := Lib.hid hd2
      clear hd1 hd2 hdw huv
      by_cases hneg : d1 < d2 + c
      · have HC2 : Hid (1 = cy (u - v) v (k + 1)) := by show _ = _; omega
        have g1 : (d1 : Int) - d2 - c + 10 ≤ dw := by omega
        have g2 : (dw : Int) ≤ d1 - d2 - c + 10 := by omega
        have g3 : (d1 : Int) - d2 - c < 0 := by omega
        clear hst hc1 hneg
        go_wp2_with (first
          | (go_at_call 137; with_reducible refine (refDigit_d u k d1 H1 _ (by omega) (by omega)).mono ?_; rintro e w' ⟨rfl, rfl⟩)
          | (go_at_call 137; with_reducible refine (refDigit_d v k d2 H2 _ (by omega) (by omega)).mono ?_; rintro e w' ⟨rfl, rfl⟩)
          | (go_at_call 113; with_reducible refine (refLetter_e _ dw (by omega) (by omega) b3 _).mono ?_; rintro e w' ⟨rfl, rfl⟩))
        go_round
        case rel => exact ⟨k + 1, 1, _, by omega, by omega, by simpa using hl, cat1 _ _, rfl, by go_num, HC2, HL2⟩
        case measure => simp [intOf]; omega
      · have HC2 : Hid (0 = cy (u - v) v (k + 1)) := by show _ = _; omega
        have g1 : (d1 : Int) - d2 - c ≤ dw := by omega
        have g2 : (dw : Int) ≤ d1 - d2 - c := by omega
        have g3 : ¬ (d1 : Int) - d2 - c < 0 := by omega
        clear hst hc1 hneg
        go_wp2_with (first
          | (go_at_call 137; with_reducible refine (refDigit_d u k d1 H1 _ (by omega) (by omega)).mono ?_; rintro e w' ⟨rfl, rfl⟩)
          | (go_at_call 137; with_reducible refine (refDigit_d v k d2 H2 _ (by omega) (by omega)).mono ?_; rintro e w' ⟨rfl, rfl⟩)
          | (go_at_call 113; with_reducible refine (refLetter_e _ dw (by omega) (by omega) b3 _).mono ?_; rintro e w' ⟨rfl, rfl⟩))
        go_round
        case rel => exact ⟨k + 1, 0, _, by omega, by omega, by simpa using hl, cat1 _ _, rfl, by go_num, HC2, HL2⟩
        case measure => simp [intOf]; omega
    · obtain ⟨j, hj⟩ : ∃ j, k = j + 1 := ⟨k - 1, by have := nd_pos u; have := HU.out; omega⟩
      have HR := Lib.hid (show trimL l = Lib.decDigits (u - v) by
        rw [HL.out, hj]
        apply trim_pad
        have := lt_pow_of_nd (u := u) (k := j + 1) (by rw [← HU.out]; omega)
        omega)
      clear hj
      go_wp2_with (go_at_call 110; with_reducible refine (refTrim_l _ (u - v) (by omega) HR.out _).mono ?_; rintro e w' ⟨rfl, rfl⟩)
      go_ret
      exact ⟨rfl, rfl⟩
theorem ret_two {a c : ByteArray} {x y : Int} (h : a = c) (h' : x = y) : Ending.returned (.tuple #[.string a, .int .i64 x]) = .returned (.tuple #[.string c, .int .i64 y]) := by rw [h, h']
theorem refWrong_e (a b : ByteArray) (x : Int) (hx : Hid (wrongL a.data.toList b.data.toList = x)) (w : World) (ha : a.size ≤ 1000000000) (hb : b.size ≤ 1000000000) :
    Calls Tryz.prog 81 #[.string a, .string b] w fun e w' => e = .returned (.int .i64 x) ∧ w = w' := by
  have := refWrong_any a b w ha hb
  rwa [hx.out] at this
theorem refWrong_num (u v : Nat) (w : World) (hu : (num u).size ≤ 4096) (hv : (num v).size ≤ 4096) :
    Calls Tryz.prog 81 #[.string (num u), .string (num v)] w fun e w' => e = .returned (.int .i64 0) ∧ w = w' :=
  refWrong_e _ _ 0 (wrong_num u v hu hv) w (by omega) (by omega)
theorem refCompare_c (u v : Nat) (c : Int) (hc : Hid (cmpN u v = c)) (w : World) (ha : (num u).size ≤ 1000000000) (hb : (num v).size ≤ 1000000000) :
    Calls Tryz.prog 111 #[.string (num u), .string (num v)] w fun e w' => e = .returned (.int .i64 c) ∧ w = w' := by
  have := refCompare_num u v w ha hb
  rwa [hc.out] at this
theorem cmp_ge {u v : Nat} (h : v ≤ u) : 0 ≤ cmpN u v := by rw [cmpN, if_neg (by omega)]; split <;> omega
theorem cmp_lt {u v : Nat} (h : u < v) : cmpN u v = -1 := by rw [cmpN, if_pos h]
theorem num_fwd (u k : Nat) (h : k < (num u).size) : (num u)[k].toNat = 48 + u / 10 ^ (nd u - 1 - k) % 10 := by
  have hl : (Lib.decDigits u).length = nd u := rfl
  have hg : (Lib.decDigits u).getD k 0 = (num u)[k] := by
    rw [List.getD_eq_getElem?_getD, List.getElem?_eq_getElem (by rw [hl, ← numS]; exact h)]; rfl
  rw [← hg, ← dig_fwd u k (by rw [← numS]; exact h)]
theorem num_cat (r d : Nat) : num r ++ ⟨#[dchr d]⟩ = ⟨(Lib.decDigits r ++ [dchr d]).toArray⟩ := cat_str _ [dchr d]
theorem refTrim_x (r d : Nat) (s : ByteArray) (hs : Hid (s = ⟨#[dchr d]⟩)) (hd : d < 10) (w : World) (hr : (num r).size ≤ 1000000) :
    Calls Tryz.prog 110 #[.string (num r ++ s)] w fun e w' => e = .returned (.string (num (10 * r + d))) ∧ w = w' := by
  rw [hs.out, num_cat]
  exact refTrim_l _ (10 * r + d) (by rw [num_size] at hr; simp; omega) (trim_snoc r d hd) w
theorem refTrim_0 (r : Nat) (w : World) (hr : (num r).size ≤ 1000000) :
    Calls Tryz.prog 110 #[.string (num r ++ ⟨#[48]⟩)] w fun e w' => e = .returned (.string (num (10 * r))) ∧ w = w' :=
  refTrim_x r 0 _ rfl (by omega) w hr
theorem pre_le (u k : Nat) : pre u k ≤ u := Nat.div_le_self _ _
theorem ret_three {a b c d : ByteArray} {x y : Int} (h : a = c) (h1 : b = d) (h' : x = y) : Ending.returned (.tuple #[.string a, .string b, .int .i64 x]) = .returned (.tuple #[.string c, .string d, .int .i64 y]) := by rw [h, h1, h']
theorem refDiv_bad (a b : ByteArray) (x : Int) (hx : Hid (wrongL a.data.toList b.data.toList = x)) (hx0 : (x != 0) = true) (w : World) (ha : a.size ≤ 1000000000) (hb : b.size ≤ 1000000000) :
    Calls Tryz.prog 82 #[.string a, .string b] w fun e w' => e = .returned (.tuple #[.string ⟨#[]⟩, .string ⟨#[]⟩, .int .i64 x]) ∧ w = w' := by
  go_enter Tryz.func82, Tryz.ntmps82
  go_wp2_with (go_at_call 81; with_reducible refine (refWrong_e _ _ x hx _ ha hb).mono ?_; rintro e w' ⟨rfl, rfl⟩)
  go_ret3
  exact ⟨rfl, rfl⟩
theorem refDiv_zero (u : Nat) (w : World) (hu : (num u).size ≤ 4096) :
    Calls Tryz.prog 82 #[.string (num u), .string (num 0)] w fun e w' => e = .returned (.tuple #[.string ⟨#[]⟩, .string ⟨#[]⟩, .int .i64 10]) ∧ w = w' := by
  have h0 : (num 0).size ≤ 4096 := by rw [← num_zero]; decide
  have hz := zero_eq 0
  rw [decide_eq_true rfl] at hz
  go_enter Tryz.func82, Tryz.ntmps82
  go_wp2_with (go_at_call 81; with_reducible refine (refWrong_num u 0 _ hu h0).mono ?_; rintro e w' ⟨rfl, rfl⟩)
  go_ret3
  exact ⟨rfl, rfl⟩
theorem refLetter_cat (l : List UInt8) (n : Nat) : (⟨l.toArray⟩ : ByteArray) ++ ⟨#[dchr n]⟩ = ⟨(l ++ [dchr n]).toArray⟩ := cat_str l [dchr n]
theorem padL_app (k Q n q : Nat) (hn : n < 10) (hq : q = 10 * Q + n) : padL k Q ++ [dchr n] = padL (k + 1) q := by
  subst hq
  rw [padL_snoc, show (10 * Q + n) / 10 = Q by omega, show (10 * Q + n) % 10 = n by omega]; rfl
theorem ext_one (u k : Nat) (h : k < (num u).size) : (num u).extract k (k + 1) = ⟨#[dchr (u / 10 ^ (nd u - 1 - k) % 10)]⟩ := by
  have hf := num_fwd u k h
  have e : dchr (u / 10 ^ (nd u - 1 - k) % 10) = (num u)[k] := by
    apply UInt8.toNat_inj.1
    rw [hf, dchr, toNat_digit _ (by omega)]
  rw [e]
  apply ByteArray.ext
  apply Array.toList_inj.1
  rw [Lib.extract_data, getD_drop0' _ k h, Nat.add_sub_cancel_left]; rfl
set_option maxHeartbeats 800000 in
theorem refDiv_num (u v : Nat) (hv0 : 0 < v) (w : World) (hu : (num u).size ≤ 4096) (hv : (num v).size ≤ 4096) :
    Calls Tryz.prog 82 #[.string (num u), .string (num v)] w fun e w' => e = .returned (.tuple #[.string (num (u / v)), .string (num (u % v)), .int .i64 0]) ∧ w = w' := by
  have HU := Lib.hid (numS u)
  have hz := zero_eq v
  rw [decide_eq_false (by omega)] at hz
  have hS : ∀ r, r < 10 * v → (num r).size ≤ 5000 := by
    intro r hr
    have h1 := nd_mono (Nat.le_of_lt hr)
    have h2 := nd_mul 10 v 2 4096 (nd_le 10 1 (by omega)) (by rw [← numS]; exact hv)
    rw [numS]; omega
  have HS := Lib.hid hS
  clear hS
  go_enter Tryz.func82, Tryz.ntmps82
  go_wp2_with (go_at_call 81; with_reducible refine (refWrong_num u v _ hu hv).mono ?_; rintro e w' ⟨rfl, rfl⟩)
  go_loop [8, 9, 10] (fun q r i => ∃ (k : Nat) (l : List UInt8), k ≤ (num u).size ∧ l.length ≤ k ∧ q = .string ⟨l.toArray⟩ ∧ r = .string (num (pre u k % v)) ∧ i = .int .i64 k ∧ Hid (l = padL k (pre u k / v)))
    (fun _ _ i => (num u).size - (intOf i).toNat)
  case atStart => exact ⟨0, [], Nat.zero_le _, Nat.le_refl _, rfl, by rw [pre_zero, Nat.zero_mod, num_zero], rfl, rfl⟩
  case round =>
    obtain ⟨k, l, hk, hl, rfl, rfl, rfl, HL⟩ := hrel
    by_cases hlt : k < (num u).size
    · obtain ⟨d, hd⟩ : ∃ d, u / 10 ^ (nd u - 1 - k) % 10 = d := ⟨_, rfl⟩
      have hd9 : d < 10 := by omega
      have hx := ext_one u k hlt
      rw [hd] at hx
      have HX := Lib.hid hx
      obtain ⟨r, hr⟩ : ∃ r, pre u k % v = r := ⟨_, rfl⟩
      have hr1 : r < v := by rw [← hr]; exact Nat.mod_lt _ hv0
      have hps := pre_succ u k (by rw [← HU.out]; exact hlt)
      rw [hd] at hps
      have hdv := div_step (pre u k) v d hv0
      rw [← hps, hr] at hdv
      rw [hr]
      have hr2 := HS.out r (by omega)
      obtain ⟨x, hxx⟩ : ∃ x, 10 * r + d = x := ⟨_, rfl⟩
      have hx10 : x < 10 * v := by omega
      rw [hxx] at hdv
      have HXX := Lib.hid hxx
      have HDV := Lib.hid hdv
      clear hx hd hr hps hdv hxx
      go_wp2_with (go_at_call 110; with_reducible refine (refTrim_x r d _ HX hd9 _ (by omega)).mono ?_; rintro e w' ⟨rfl, rfl⟩)
      go_loop [9, 11] (fun r i => ∃ n : Nat, n ≤ 9 ∧ n * v ≤ x ∧ r = .string (num (x - n * v)) ∧ i = .int .i64 n)
        (fun _ i => 10 - (intOf i).toNat)
      case atStart => exact ⟨0, by omega, by omega, by rw [Nat.zero_mul, Nat.sub_zero, HXX.out], rfl⟩
      case round =>
        obtain ⟨n, hn, hnv, rfl, rfl⟩ := hrel
        have hs1 := HS.out (x - n * v) (by omega)
        obtain ⟨c, hc⟩ : ∃ c, cmpN (x - n * v) v = c := ⟨_, rfl⟩
        by_cases hge : v ≤ x - n * v
        · have hc0 : 0 ≤ c := by have := cmp_ge hge; omega
          have hm : (n + 1) * v = n * v + v := by rw [Nat.add_mul, Nat.one_mul]
          have hn1 : n + 1 ≤ 9 := by
            apply Decidable.byContradiction
            intro h9
            have : 10 * v ≤ (n + 1) * v := Nat.mul_le_mul_right _ (by omega)
            omega
          have hnv2 : (n + 1) * v ≤ x := by omega
          have HM : Hid (x - n * v - v = x - (n + 1) * v) := by show _ = _; omega
          have HC := Lib.hid hc
          clear hc hm
          go_wp2_with (first
            | (go_at_call 111; with_reducible refine (refCompare_c _ v c HC _ (by omega) (by omega)).mono ?_; rintro e w' ⟨rfl, rfl⟩)
            | (go_at_call 112; with_reducible refine (refLess_num _ v hge _ (by omega) (by omega)).mono ?_; rintro e w' ⟨rfl, rfl⟩))
          go_round
          case rel => exact ⟨n + 1, hn1, hnv2, by rw [HM.out], by go_num⟩
          case measure => simp [intOf]; omega
        · have hsq := small_quo x v n hnv (by omega)
          rw [cmp_lt (by omega)] at hc
          have HC : Hid (cmpN (x - n * v) v = -1) := cmp_lt (by omega)
          have HQ : Hid (l ++ [dchr n] = padL (k + 1) (pre u (k + 1) / v)) := by
            show _ = _
            rw [HL.out]
            exact padL_app k _ n _ (by omega) (by rw [HDV.out.1, hsq.1])
          have HR : Hid (x - n * v = pre u (k + 1) % v) := by show _ = _; rw [HDV.out.2, hsq.2]
          clear hc hsq
          go_wp2_with (first
            | (go_at_call 111; with_reducible refine (refCompare_c _ v (-1) HC _ (by omega) (by omega)).mono ?_; rintro e w' ⟨rfl, rfl⟩)
            | (go_at_call 113; with_reducible refine (refLetter_any n (by omega) _).mono ?_; rintro e w' ⟨rfl, rfl⟩))
          go_round
          case rel => exact ⟨k + 1, l ++ [dchr n], by omega, by simpa using hl, by rw [refLetter_cat], by rw [HR.out], by go_num, HQ⟩
          case measure => simp [intOf]; omega
    · obtain rfl : k = (num u).size := by omega
      have hp : pre u (num u).size = u := by rw [HU.out, pre_all]
      have HT := Lib.hid (show trimL l = Lib.decDigits (u / v) by
        rw [HL.out, hp]
        obtain ⟨j, hj⟩ : ∃ j, (num u).size = j + 1 := ⟨(num u).size - 1, by have := nd_pos u; have := HU.out; omega⟩
        rw [hj]
        apply trim_pad
        rw [← hj, HU.out]
        exact Nat.lt_of_le_of_lt (Nat.div_le_self _ _) (lt_nd u))
      have HP := Lib.hid hp
      clear hp
      go_wp2_with (go_at_call 110; with_reducible refine (refTrim_l _ (u / v) (by omega) HT.out _).mono ?_; rintro e w' ⟨rfl, rfl⟩)
      go_ret3
      exact ⟨ret_three rfl (by rw [HP.out]) rfl, rfl⟩
theorem refGcd_bad (a b : ByteArray) (x : Int) (hx : Hid (wrongL a.data.toList b.data.toList = x)) (hx0 : (x != 0) = true) (w : World) (ha : a.size ≤ 1000000000) (hb : b.size ≤ 1000000000) :
    Calls Tryz.prog 45 #[.string a, .string b] w fun e w' => e = .returned (.tuple #[.string ⟨#[]⟩, .int .i64 x]) ∧ w = w' := by
  go_enter Tryz.func45, Tryz.ntmps45
  go_wp2_with (go_at_call 81; with_reducible refine (refWrong_e _ _ x hx _ ha hb).mono ?_; rintro e w' ⟨rfl, rfl⟩)
  go_ret2
  exact ⟨rfl, rfl⟩
def valV : Value → Nat | .string s => valA 0 s.data.toList | _ => 0
theorem valV_num (u : Nat) : valV (.string (num u)) = u := dec_val u
set_option maxHeartbeats 400000 in
theorem refGcd_num (u v : Nat) (w : World) (hu : (num u).size ≤ 4096) (hv : (num v).size ≤ 4096) :
    Calls Tryz.prog 45 #[.string (num u), .string (num v)] w fun e w' => e = .returned (.tuple #[.string (num (Nat.gcd u v)), .int .i64 0]) ∧ w = w' := by
  go_enter Tryz.func45, Tryz.ntmps45
  go_wp2_with (go_at_call 81; with_reducible refine (refWrong_num u v _ hu hv).mono ?_; rintro e w' ⟨rfl, rfl⟩)
  go_loop [0, 1] (fun a b => ∃ x y : Nat, a = .string (num x) ∧ b = .string (num y) ∧ (num x).size ≤ 4096 ∧ (num y).size ≤ 4096 ∧ Hid (Nat.gcd x y = Nat.gcd u v))
    (fun _ b => valV b)
  case atStart => exact ⟨u, v, rfl, rfl, hu, hv, rfl⟩
  case round =>
    obtain ⟨x, y, rfl, rfl, hx, hy, HG⟩ := hrel
    by_cases h0 : y = 0
    · subst h0
      have HG2 : Hid (num x = num (Nat.gcd u v)) := by show _ = _; rw [← HG.out, Nat.gcd_zero_right]
      have hz := zero_eq 0
      rw [decide_eq_true rfl] at hz
      have hz2 : ((num 0).toList != [48]) = false := by rw [bne, hz]; rfl
      go_wp2_with fail
      go_ret2
      exact ⟨ret_two HG2.out rfl, rfl⟩
    · have hy0 : 0 < y := by omega
      have hz := zero_eq y
      rw [decide_eq_false h0] at hz
      have hz2 : ((num y).toList != [48]) = true := by rw [bne, hz]; rfl
      have hm : (num (x % y)).size ≤ 4096 := by
        have := nd_mono (Nat.le_of_lt (Nat.mod_lt x hy0))
        rw [numS] at hy ⊢; omega
      have HG2 : Hid (Nat.gcd y (x % y) = Nat.gcd u v) := by show _ = _; rw [← HG.out, Nat.gcd_comm x y, Nat.gcd_rec y x, Nat.gcd_comm]
      have HM : Hid (x % y < y) := Nat.mod_lt x hy0
      clear h0
      go_wp2_with (go_at_call 82; with_reducible refine (refDiv_num x y hy0 _ (by omega) (by omega)).mono ?_; rintro e w' ⟨rfl, rfl⟩)
      go_round
      case rel => exact ⟨y, x % y, rfl, rfl, hy, hm, HG2⟩
      case measure => rw [valV_num, valV_num]; exact HM.out

end Go.Proofs.YthamlnolfagpiaaGreatDoor

