/-
  DERIVED. The walks of nat's Right, Compare, check and sized.
-/
import Derived.Test.YtgpjfgakhncdnaaDoorNatRef
import Derived.Test.YtgpjfgakhncdnaaDoorShelf
import Derived.Below
namespace Go.Proofs.YtgpjfgakhncdnaaDoor
open Go.RowKit

set_option maxHeartbeats 400000 in
theorem natRight_eq (s : ByteArray) (w : World) (hs : s.size ≤ 1000000000) :
    Calls Tryd.prog 10 #[.string s] w fun e w' => e = .returned (.bool (rightL s.data.toList)) ∧ w = w' := by
  by_cases hz : s.size = 0
  · have hs := empty_of s hz
    subst hs
    go_enter Tryd.func10, Tryd.ntmps10
    go_wp2
    go_ret
    exact ⟨rfl, rfl⟩
  have h0 : 0 < s.size := by omega
  have hE := isE s h0
  have hE' := notE s h0
  by_cases hb : 1 < s.size ∧ s[0].toNat = 48
  · obtain ⟨h1, h2⟩ := hb
    have HK : Hid (rightL s.data.toList = false) := right_zero _ (by rw [len_of]; exact h1) (by rw [head_of s h0]; exact h2)
    have h2' : ((s[0].toNat : Int) == 48) = true := beqI h2
    clear h2 hz
    go_enter Tryd.func10, Tryd.ntmps10
    go_wp2_with fail
    go_ret
    exact ⟨ret_bool HK.out.symm, rfl⟩
  have HR : Hid (rightL s.data.toList = digs s.data.toList) := right_len _ (by rw [len_of]; exact hz) (by
    rw [len_of, head_of s h0]
    by_cases h1 : s.size ≤ 1
    · exact Or.inl h1
    · exact Or.inr (fun e => hb ⟨by omega, e⟩))
  have hcase : (((s[0].toNat : Int) == 48) = false) ∨ (((s[0].toNat : Int) == 48) = true ∧ s.size ≤ 1) := by
    by_cases h1 : s[0].toNat = 48
    · exact Or.inr ⟨beqI h1, by
        apply Decidable.byContradiction
        intro h; exact hb ⟨by omega, h1⟩⟩
    · exact Or.inl (bneI h1)
  clear hb hz
  rcases hcase with h1 | ⟨h1, h2⟩
  all_goals
    go_enter Tryd.func10, Tryd.ntmps10
    go_wp2_with fail
    go_loop [3] (fun i => ∃ k : Nat, k ≤ s.size ∧ i = .int .i64 k ∧ Hid ((s.data.toList.take k).all (fun c => dig c.toNat) = true)) (fun i => s.size - (intOf i).toNat)
    case atStart => exact ⟨0, Nat.zero_le _, rfl, by rw [List.take_zero]; rfl⟩
    case round =>
      obtain ⟨k, hk, rfl, HA⟩ := hrel
      clear h1
      by_cases hlt : k < s.size
      · cases hw : dig s[k].toNat
        · have HK : Hid (rightL s.data.toList = false) := by show _ = _; rw [HR.out]; exact all_stop s _ k hlt hw
          have hn : s[k].toNat < 48 ∨ (48 ≤ s[k].toNat ∧ 57 < s[k].toNat) := by
            apply Decidable.byContradiction
            intro h
            rw [show dig s[k].toNat = true by simp [dig]; omega] at hw; cases hw
          clear hw
          rcases hn with hn | ⟨hn, hn2⟩
          · go_wp2_with fail
            go_ret
            exact ⟨ret_bool HK.out.symm, rfl⟩
          · go_wp2_with fail
            go_ret
            exact ⟨ret_bool HK.out.symm, rfl⟩
        · have HA' := Lib.hid (all_step s (fun c => dig c.toNat) k hlt HA.out hw)
          have hd := dig_bd hw
          have hd1 := hd.1
          have hd2 := hd.2
          clear hw hd
          go_wp2_with fail
          go_round
          case rel => exact ⟨k + 1, by omega, by go_num, HA'⟩
          case measure => simp [intOf]; omega
      · have hk' : k = s.size := by omega
        subst hk'
        have HK : Hid (rightL s.data.toList = true) := by show _ = _; rw [HR.out]; exact all_end s _ HA.out
        go_wp2_with fail
        go_ret
        exact ⟨ret_bool HK.out.symm, rfl⟩
theorem natRight_yes (u : Nat) (w : World) (hs : (num u).size ≤ 1000000000) :
    Calls Tryd.prog 10 #[.string (num u)] w fun e w' => e = .returned (.bool true) ∧ w = w' := by
  have := natRight_eq (num u) w hs
  rwa [num_data, right_num] at this

theorem cmpInt_any (x y : Int) (w : World) :
    Calls Tryd.prog 24 #[.int .i64 x, .int .i64 y] w fun e w' => e = .returned (.int .i64 (if x < y then -1 else if y < x then 1 else 0)) ∧ w = w' := by
  go_enter Tryd.func24, Tryd.ntmps24
  go_wp2
  all_goals
    go_ret
    refine ⟨?_, rfl⟩
    repeat' split
    all_goals first | rfl | (exfalso; omega)

theorem cmpB_eq : ∀ (a b : List UInt8), Lib.compareBytes a b = if Op.bytesLess a b = true then -1 else if a = b then 0 else 1
  | [], [] => by simp [Lib.compareBytes, Op.bytesLess]
  | [], _ :: _ => by simp [Lib.compareBytes, Op.bytesLess]
  | _ :: _, [] => by simp [Lib.compareBytes, Op.bytesLess]
  | a :: x, b :: y => by
    rw [Lib.compareBytes, Op.bytesLess]
    by_cases h1 : a < b
    · simp [h1]
    · by_cases h2 : b < a
      · have h3 : a ≠ b := by rintro rfl; exact h1 h2
        simp [h1, h2, h3]
      · have h3 : a = b := by
          apply UInt8.toNat_inj.1
          rw [UInt8.lt_iff_toNat_lt] at h1 h2
          omega
        subst h3
        rw [cmpB_eq x y]
        simp [h1]
theorem cmpB_num (u v : Nat) (h : nd u = nd v) : Lib.compareBytes (num u).data.toList (num v).data.toList = cmpN u v := by
  have h1 := bl_num u v h
  have h2 := eq_num u v
  rw [ByteArray.toList_eq, ByteArray.toList_eq] at h1 h2
  rw [cmpB_eq, h1, cmpN]
  by_cases h3 : u < v
  · simp [h3]
  · by_cases h4 : u = v
    · rw [decide_eq_true h4] at h2
      have := eq_of_beq h2
      simp [h4]
    · rw [decide_eq_false h4] at h2
      have := ne_of_beq_false h2
      simp [h3, h4, this]

theorem strCmp_num (u v : Nat) (h : nd u = nd v) (w : World) :
    Calls Tryd.prog 25 #[.string (num u), .string (num v)] w fun e w' => e = .returned (.int .i64 (cmpN u v)) ∧ w = w' := by
  have H := Tryd.strings_Compare (num u) (num v) w
  rw [cmpB_num u v h] at H
  exact H.mono fun _ _ ⟨he, hw⟩ => ⟨he, hw.symm⟩

set_option maxHeartbeats 400000 in
theorem cmp_bad (a b : ByteArray) (w : World) (ha : a.size ≤ 1000000000) (hb : b.size ≤ 1000000000) (h : rightL a.data.toList = false ∨ rightL b.data.toList = false) :
    Calls Tryd.prog 12 #[.string a, .string b] w fun e w' => e = .returned (.int .i64 0) ∧ w = w' := by
  cases h1 : rightL a.data.toList
  · clear h
    go_enter Tryd.func12, Tryd.ntmps12
    go_wp2_with (go_at_call 10; refine (natRight_eq _ _ (by omega)).mono ?_; rintro e w' ⟨rfl, rfl⟩)
    go_ret
    exact ⟨rfl, rfl⟩
  · have h2 : rightL b.data.toList = false := by rcases h with h | h; (rw [h] at h1; cases h1); exact h
    clear h
    go_enter Tryd.func12, Tryd.ntmps12
    go_wp2_with (go_at_call 10; refine (natRight_eq _ _ (by omega)).mono ?_; rintro e w' ⟨rfl, rfl⟩)
    go_ret
    exact ⟨rfl, rfl⟩

theorem cmpInt_ne (x y z : Int) (hz : Hid (z = if x < y then -1 else if y < x then 1 else 0)) (w : World) :
    Calls Tryd.prog 24 #[.int .i64 x, .int .i64 y] w fun e w' => e = .returned (.int .i64 z) ∧ w = w' := by
  have := hz.out
  subst this
  exact cmpInt_any x y w

set_option maxHeartbeats 400000 in
theorem cmp_num (u v : Nat) (w : World) (ha : (num u).size ≤ 1000000000) (hb : (num v).size ≤ 1000000000) :
    Calls Tryd.prog 12 #[.string (num u), .string (num v)] w fun e w' => e = .returned (.int .i64 (cmpN u v)) ∧ w = w' := by
  have hsu : (num u).size = nd u := num_size u
  have hsv : (num v).size = nd v := num_size v
  rcases Nat.lt_trichotomy (nd u) (nd v) with h | h | h
  · have hlt := nd_lt h
    have HK : Hid (cmpN u v = -1) := by show _ = _; rw [cmpN, if_pos hlt]
    have HZ : Hid ((-1 : Int) = if ((num u).size : Int) < ((num v).size : Int) then -1 else if ((num v).size : Int) < ((num u).size : Int) then 1 else 0) := by show _ = _; rw [if_pos (by omega)]
    clear hsu hsv h hlt
    go_enter Tryd.func12, Tryd.ntmps12
    go_wp2_with (first
      | (go_at_call 10; refine (natRight_yes _ _ (by omega)).mono ?_; rintro e w' ⟨rfl, rfl⟩)
      | (go_at_call 24; refine (cmpInt_ne _ _ (-1) HZ _).mono ?_; rintro e w' ⟨rfl, rfl⟩))
    go_ret
    exact ⟨ret_int HK.out.symm, rfl⟩
  · have HZ : Hid ((0 : Int) = if ((num u).size : Int) < ((num v).size : Int) then -1 else if ((num v).size : Int) < ((num u).size : Int) then 1 else 0) := by show _ = _; rw [if_neg (by omega), if_neg (by omega)]
    have HH := Lib.hid h
    clear hsu hsv h
    go_enter Tryd.func12, Tryd.ntmps12
    go_wp2_with (first
      | (go_at_call 10; refine (natRight_yes _ _ (by omega)).mono ?_; rintro e w' ⟨rfl, rfl⟩)
      | (go_at_call 24; refine (cmpInt_ne _ _ 0 HZ _).mono ?_; rintro e w' ⟨rfl, rfl⟩)
      | (go_at_call 25; refine (strCmp_num u v HH.out _).mono ?_; rintro e w' ⟨rfl, rfl⟩))
    go_ret
    exact ⟨rfl, rfl⟩
  · have hlt := nd_lt h
    have HK : Hid (cmpN u v = 1) := by show _ = _; rw [cmpN, if_neg (by omega), if_neg (by omega)]
    have HZ : Hid ((1 : Int) = if ((num u).size : Int) < ((num v).size : Int) then -1 else if ((num v).size : Int) < ((num u).size : Int) then 1 else 0) := by show _ = _; rw [if_neg (by omega), if_pos (by omega)]
    clear hsu hsv h hlt
    go_enter Tryd.func12, Tryd.ntmps12
    go_wp2_with (first
      | (go_at_call 10; refine (natRight_yes _ _ (by omega)).mono ?_; rintro e w' ⟨rfl, rfl⟩)
      | (go_at_call 24; refine (cmpInt_ne _ _ 1 HZ _).mono ?_; rintro e w' ⟨rfl, rfl⟩))
    go_ret
    exact ⟨ret_int HK.out.symm, rfl⟩

set_option maxHeartbeats 400000 in
theorem check_any (a b : ByteArray) (w : World) (ha : a.size ≤ 1000000000) (hb : b.size ≤ 1000000000) :
    Calls Tryd.prog 26 #[.string a, .string b] w fun e w' => e = .returned (.int .i64 (wrongL a.data.toList b.data.toList)) ∧ w = w' := by
  have HW : Hid (wrongL a.data.toList b.data.toList = if rightL a.data.toList = false ∨ rightL b.data.toList = false then 3 else if 4096 < a.size ∨ 4096 < b.size then 4 else 0) := by
    show _ = _; rw [wrongL, len_of, len_of]
  cases h1 : rightL a.data.toList
  · rw [h1] at HW
    go_enter Tryd.func26, Tryd.ntmps26
    go_wp2_with (go_at_call 10; refine (natRight_eq _ _ (by omega)).mono ?_; rintro e w' ⟨rfl, rfl⟩)
    go_ret
    exact ⟨ret_int (by rw [HW.out]; simp), rfl⟩
  cases h2 : rightL b.data.toList
  · rw [h2] at HW
    go_enter Tryd.func26, Tryd.ntmps26
    go_wp2_with (go_at_call 10; refine (natRight_eq _ _ (by omega)).mono ?_; rintro e w' ⟨rfl, rfl⟩)
    go_ret
    exact ⟨ret_int (by rw [HW.out]; simp), rfl⟩
  rw [h1, h2] at HW
  by_cases h3 : 4096 < a.size
  · go_enter Tryd.func26, Tryd.ntmps26
    go_wp2_with (go_at_call 10; refine (natRight_eq _ _ (by omega)).mono ?_; rintro e w' ⟨rfl, rfl⟩)
    go_ret
    exact ⟨ret_int (by rw [HW.out]; simp [h3]), rfl⟩
  by_cases h4 : 4096 < b.size
  · go_enter Tryd.func26, Tryd.ntmps26
    go_wp2_with (go_at_call 10; refine (natRight_eq _ _ (by omega)).mono ?_; rintro e w' ⟨rfl, rfl⟩)
    go_ret
    exact ⟨ret_int (by rw [HW.out]; simp [h4]), rfl⟩
  · go_enter Tryd.func26, Tryd.ntmps26
    go_wp2_with (go_at_call 10; refine (natRight_eq _ _ (by omega)).mono ?_; rintro e w' ⟨rfl, rfl⟩)
    go_ret
    exact ⟨ret_int (by rw [HW.out]; simp [h3, h4]), rfl⟩
theorem check_hid (a b : ByteArray) (x : Int) (hx : Hid (wrongL a.data.toList b.data.toList = x)) (w : World) (ha : a.size ≤ 1000000000) (hb : b.size ≤ 1000000000) :
    Calls Tryd.prog 26 #[.string a, .string b] w fun e w' => e = .returned (.int .i64 x) ∧ w = w' := by
  have := check_any a b w ha hb
  rwa [hx.out] at this
theorem check_num (u v : Nat) (w : World) (hu : (num u).size ≤ 4096) (hv : (num v).size ≤ 4096) :
    Calls Tryd.prog 26 #[.string (num u), .string (num v)] w fun e w' => e = .returned (.int .i64 0) ∧ w = w' := by
  refine check_hid _ _ 0 ?_ w (by omega) (by omega)
  show wrongL _ _ = _
  rw [wrongL, num_data, num_data, right_num, right_num, ← num_data, ← num_data, len_of, len_of, if_neg (by simp), if_neg (by omega)]

theorem sized_ok (s : ByteArray) (w : World) (hs : s.size ≤ 4096) :
    Calls Tryd.prog 27 #[.string s] w fun e w' => e = .returned (.tuple #[.string s, .int .i64 0]) ∧ w = w' := by
  go_enter Tryd.func27, Tryd.ntmps27
  go_wp2_with fail
  go_ret2
  exact ⟨rfl, rfl⟩
theorem sized_over (s : ByteArray) (w : World) (hs : 4096 < s.size) :
    Calls Tryd.prog 27 #[.string s] w fun e w' => e = .returned (.tuple #[.string ⟨#[]⟩, .int .i64 4]) ∧ w = w' := by
  go_enter Tryd.func27, Tryd.ntmps27
  go_wp2_with fail
  go_ret2
  exact ⟨rfl, rfl⟩

end Go.Proofs.YtgpjfgakhncdnaaDoor
