/-
  DERIVED. The walks of the specification's Right and Compare.
-/
import Derived.Test.YtgpjfgakhncdnaaDoorNatGen
namespace Go.Proofs.YtgpjfgakhncdnaaDoor
open Go.RowKit

theorem right_len (l : List UInt8) (h0 : l.length ≠ 0) (h1 : l.length ≤ 1 ∨ (l.headD 0).toNat ≠ 48) : rightL l = digs l := by
  have hz : l.isEmpty = false := by cases l <;> simp at h0 ⊢
  rw [rightL, hz]
  rcases h1 with h1 | h1
  · rw [decide_eq_true h1]; simp
  · rw [beq_eq_false_iff_ne.2 h1]; simp
theorem right_zero (l : List UInt8) (h1 : 1 < l.length) (h2 : (l.headD 0).toNat = 48) : rightL l = false := by
  rw [rightL, decide_eq_false (by omega), h2]; simp

set_option maxHeartbeats 400000 in
theorem refRight_any (s : ByteArray) (w : World) (hs : s.size ≤ 1000000000) :
    Calls Tryd.prog 11 #[.string s] w fun e w' => e = .returned (.bool (rightL s.data.toList)) ∧ w = w' := by
  by_cases hz : s.size = 0
  · have hs := empty_of s hz
    subst hs
    go_enter Tryd.func11, Tryd.ntmps11
    go_wp2
    go_ret
    exact ⟨rfl, rfl⟩
  have h0 : 0 < s.size := by omega
  have hz' : ((s.size : Int) == 0) = false := bneI (a := s.size) (b := 0) hz
  by_cases hb : 1 < s.size ∧ s[0].toNat = 48
  · obtain ⟨h1, h2⟩ := hb
    have HK : Hid (rightL s.data.toList = false) := right_zero _ (by rw [len_of]; exact h1) (by rw [head_of s h0]; exact h2)
    have h2' : ((s[0].toNat : Int) == 48) = true := beqI h2
    clear h2 hz
    go_enter Tryd.func11, Tryd.ntmps11
    go_wp2_with fail
    go_ret
    exact ⟨ret_bool HK.out.symm, rfl⟩
  have HR : Hid (rightL s.data.toList = digs s.data.toList) := right_len _ (by rw [len_of]; exact hz) (by
    rw [len_of, head_of s h0]
    by_cases h1 : s.size ≤ 1
    · exact Or.inl h1
    · exact Or.inr (fun e => hb ⟨by omega, e⟩))
  have hcase : s.size ≤ 1 ∨ (1 < s.size ∧ ((s[0].toNat : Int) == 48) = false) := by
    by_cases h1 : s.size ≤ 1
    · exact Or.inl h1
    · exact Or.inr ⟨by omega, bneI (fun e => hb ⟨by omega, e⟩)⟩
  clear hb hz
  rcases hcase with h1 | ⟨h1, h2⟩
  all_goals
    go_enter Tryd.func11, Tryd.ntmps11
    go_wp2_with fail
    go_loop [3] (fun i => ∃ k : Nat, k ≤ s.size ∧ i = .int .i64 k ∧ Hid ((s.data.toList.take k).all (fun c => dig c.toNat) = true)) (fun i => s.size - (intOf i).toNat)
    case atStart => exact ⟨0, Nat.zero_le _, rfl, by rw [List.take_zero]; rfl⟩
    case round =>
      obtain ⟨k, hk, rfl, HA⟩ := hrel
      by_cases hlt : k < s.size
      · cases hw : dig s[k].toNat
        · have HK : Hid (rightL s.data.toList = false) := by show _ = _; rw [HR.out]; exact all_stop s _ k hlt hw
          have hn : s[k].toNat < 48 ∨ (48 ≤ s[k].toNat ∧ 57 < s[k].toNat) := by
            apply Decidable.byContradiction
            intro h
            rw [show dig s[k].toNat = true by simp [dig]; omega] at hw; cases hw
          clear hw
          rcases hn with hn | ⟨hn, hn2⟩
          · go_wp2_with fail
            go_ret
            exact ⟨ret_bool HK.out.symm, rfl⟩
          · go_wp2_with fail
            go_ret
            exact ⟨ret_bool HK.out.symm, rfl⟩
        · have HA' := Lib.hid (all_step s (fun c => dig c.toNat) k hlt HA.out hw)
          have hd := dig_bd hw
          have hd1 := hd.1
          have hd2 := hd.2
          clear hw hd
          go_wp2_with fail
          go_round
          case rel => exact ⟨k + 1, by omega, by go_num, HA'⟩
          case measure => simp [intOf]; omega
      · have hk' : k = s.size := by omega
        subst hk'
        have HK : Hid (rightL s.data.toList = true) := by show _ = _; rw [HR.out]; exact all_end s _ HA.out
        go_wp2_with fail
        go_ret
        exact ⟨ret_bool HK.out.symm, rfl⟩

theorem refRight_num (u : Nat) (w : World) (hs : (num u).size ≤ 1000000000) :
    Calls Tryd.prog 11 #[.string (num u)] w fun e w' => e = .returned (.bool true) ∧ w = w' := by
  have := refRight_any (num u) w hs
  rwa [num_data, right_num] at this

set_option maxHeartbeats 400000 in
theorem refCompare_bad (a b : ByteArray) (w : World) (ha : a.size ≤ 1000000000) (hb : b.size ≤ 1000000000) (h : rightL a.data.toList = false ∨ rightL b.data.toList = false) :
    Calls Tryd.prog 13 #[.string a, .string b] w fun e w' => e = .returned (.int .i64 0) ∧ w = w' := by
  cases h1 : rightL a.data.toList
  · clear h
    go_enter Tryd.func13, Tryd.ntmps13
    go_wp2_with (go_at_call 11; refine (refRight_any _ _ (by omega)).mono ?_; rintro e w' ⟨rfl, rfl⟩)
    go_ret
    exact ⟨rfl, rfl⟩
  · have h2 : rightL b.data.toList = false := by rcases h with h | h; (rw [h] at h1; cases h1); exact h
    clear h
    go_enter Tryd.func13, Tryd.ntmps13
    go_wp2_with (go_at_call 11; refine (refRight_any _ _ (by omega)).mono ?_; rintro e w' ⟨rfl, rfl⟩)
    go_ret
    exact ⟨rfl, rfl⟩

set_option maxHeartbeats 400000 in
theorem refCompare_num (u v : Nat) (w : World) (ha : (num u).size ≤ 1000000000) (hb : (num v).size ≤ 1000000000) :
    Calls Tryd.prog 13 #[.string (num u), .string (num v)] w fun e w' => e = .returned (.int .i64 (cmpN u v)) ∧ w = w' := by
  have hsu : (num u).size = nd u := num_size u
  have hsv : (num v).size = nd v := num_size v
  have heq := eq_num u v
  rcases Nat.lt_trichotomy u v with h | h | h
  · have HK : Hid (cmpN u v = -1) := by show _ = _; rw [cmpN, if_pos h]
    rw [decide_eq_false (by omega)] at heq
    have hm := nd_mono (Nat.le_of_lt h)
    by_cases hn : nd u = nd v
    · have hbl := bl_num u v hn
      rw [decide_eq_true h] at hbl
      have hne : (((num u).size : Int) == ((num v).size : Int)) = true := by rw [hsu, hsv]; exact beqI hn
      have hlt : ¬ ((num u).size : Int) < ((num v).size : Int) := by omega
      clear hsu hsv hm hn h
      go_enter Tryd.func13, Tryd.ntmps13
      go_wp2_with (go_at_call 11; refine (refRight_num _ _ (by omega)).mono ?_; rintro e w' ⟨rfl, rfl⟩)
      go_ret
      exact ⟨ret_int HK.out.symm, rfl⟩
    · have hlt : (num u).size < (num v).size := by omega
      clear hsu hsv hm hn h
      go_enter Tryd.func13, Tryd.ntmps13
      go_wp2_with (go_at_call 11; refine (refRight_num _ _ (by omega)).mono ?_; rintro e w' ⟨rfl, rfl⟩)
      go_ret
      exact ⟨ret_int HK.out.symm, rfl⟩
  · have HK : Hid (cmpN u v = 0) := by show _ = _; rw [cmpN, if_neg (by omega), if_pos h]
    rw [decide_eq_true h] at heq
    clear hsu hsv h
    go_enter Tryd.func13, Tryd.ntmps13
    go_wp2_with (go_at_call 11; refine (refRight_num _ _ (by omega)).mono ?_; rintro e w' ⟨rfl, rfl⟩)
    go_ret
    exact ⟨ret_int HK.out.symm, rfl⟩
  · have HK : Hid (cmpN u v = 1) := by show _ = _; rw [cmpN, if_neg (by omega), if_neg (by omega)]
    rw [decide_eq_false (by omega)] at heq
    have hm := nd_mono (Nat.le_of_lt h)
    have hlt : (num v).size ≤ (num u).size := by omega
    by_cases hn : nd u = nd v
    · have hbl := bl_num u v hn
      rw [decide_eq_false (by omega)] at hbl
      have hne : (((num u).size : Int) == ((num v).size : Int)) = true := by rw [hsu, hsv]; exact beqI hn
      clear hsu hsv hm hn h
      go_enter Tryd.func13, Tryd.ntmps13
      go_wp2_with (go_at_call 11; refine (refRight_num _ _ (by omega)).mono ?_; rintro e w' ⟨rfl, rfl⟩)
      go_ret
      exact ⟨ret_int HK.out.symm, rfl⟩
    · have hne : (((num u).size : Int) == ((num v).size : Int)) = false := by rw [hsu, hsv]; exact bneI hn
      clear hsu hsv hm hn h
      go_enter Tryd.func13, Tryd.ntmps13
      go_wp2_with (go_at_call 11; refine (refRight_num _ _ (by omega)).mono ?_; rintro e w' ⟨rfl, rfl⟩)
      go_ret
      exact ⟨ret_int HK.out.symm, rfl⟩

/-- the common errors -/
def wrongL (a b : List UInt8) : Int := if rightL a = false ∨ rightL b = false then 3 else if 4096 < a.length ∨ 4096 < b.length then 4 else 0

set_option maxHeartbeats 400000 in
theorem refWrong_any (a b : ByteArray) (w : World) (ha : a.size ≤ 1000000000) (hb : b.size ≤ 1000000000) :
    Calls Tryd.prog 31 #[.string a, .string b] w fun e w' => e = .returned (.int .i64 (wrongL a.data.toList b.data.toList)) ∧ w = w' := by
  have HW : Hid (wrongL a.data.toList b.data.toList = if rightL a.data.toList = false ∨ rightL b.data.toList = false then 3 else if 4096 < a.size ∨ 4096 < b.size then 4 else 0) := by
    show _ = _; rw [wrongL, len_of, len_of]
  cases h1 : rightL a.data.toList
  · rw [h1] at HW
    go_enter Tryd.func31, Tryd.ntmps31
    go_wp2_with (go_at_call 11; refine (refRight_any _ _ (by omega)).mono ?_; rintro e w' ⟨rfl, rfl⟩)
    go_ret
    exact ⟨ret_int (by rw [HW.out]; simp), rfl⟩
  cases h2 : rightL b.data.toList
  · rw [h2] at HW
    go_enter Tryd.func31, Tryd.ntmps31
    go_wp2_with (go_at_call 11; refine (refRight_any _ _ (by omega)).mono ?_; rintro e w' ⟨rfl, rfl⟩)
    go_ret
    exact ⟨ret_int (by rw [HW.out]; simp), rfl⟩
  rw [h1, h2] at HW
  by_cases h3 : 4096 < a.size
  · go_enter Tryd.func31, Tryd.ntmps31
    go_wp2_with (go_at_call 11; refine (refRight_any _ _ (by omega)).mono ?_; rintro e w' ⟨rfl, rfl⟩)
    go_ret
    exact ⟨ret_int (by rw [HW.out]; simp [h3]), rfl⟩
  by_cases h4 : 4096 < b.size
  · go_enter Tryd.func31, Tryd.ntmps31
    go_wp2_with (go_at_call 11; refine (refRight_any _ _ (by omega)).mono ?_; rintro e w' ⟨rfl, rfl⟩)
    go_ret
    exact ⟨ret_int (by rw [HW.out]; simp [h4]), rfl⟩
  · go_enter Tryd.func31, Tryd.ntmps31
    go_wp2_with (go_at_call 11; refine (refRight_any _ _ (by omega)).mono ?_; rintro e w' ⟨rfl, rfl⟩)
    go_ret
    exact ⟨ret_int (by rw [HW.out]; simp [h3, h4]), rfl⟩

end Go.Proofs.YtgpjfgakhncdnaaDoor
