/-
  DERIVED. The walks of the specification's letter, digit, trim, sum, less and times.
-/
import Derived.Test.YtgpjfgakhncdnaaDoorNatRef
import Derived.Test.YtgpjfgakhncdnaaDoorPureNat2
namespace Go.Proofs.YtgpjfgakhncdnaaDoor
open Go.RowKit

theorem letter_ex : ∀ n : Nat, n < 10 → (⟨#[48, 49, 50, 51, 52, 53, 54, 55, 56, 57]⟩ : ByteArray).extract n (n + 1) = ⟨#[dchr n]⟩ := by decide
theorem numS (u : Nat) : (num u).size = nd u := num_size u
theorem num_at (u k : Nat) (h : k < (num u).size) : ((num u)[(num u).size - 1 - k]'(by omega)).toNat = 48 + u / 10 ^ k % 10 := by
  have hS := numS u
  have hl : (Lib.decDigits u).length = nd u := rfl
  have hg : (Lib.decDigits u).getD ((num u).size - 1 - k) 0 = (num u)[(num u).size - 1 - k]'(by omega) := by
    rw [List.getD_eq_getElem?_getD, List.getElem?_eq_getElem (by omega)]; rfl
  rw [← hg, hS, ← dig_at u k (by omega)]

theorem refLetter_any (n : Nat) (hn : n < 10) (w : World) :
    Calls Tryd.prog 40 #[.int .i64 n] w fun e w' => e = .returned (.string ⟨#[dchr n]⟩) ∧ w = w' := by
  have HE := Lib.hid (letter_ex n hn)
  go_enter Tryd.func40, Tryd.ntmps40
  go_wp2_with fail
  go_ret
  exact ⟨ret_str HE.out, rfl⟩

theorem refDigit_num (u k : Nat) (w : World) (hs : (num u).size ≤ 1000000000) (hk : k ≤ 1000000000) :
    Calls Tryd.prog 47 #[.string (num u), .int .i64 k] w fun e w' => e = .returned (.int .i64 (u / 10 ^ k % 10 : Nat)) ∧ w = w' := by
  by_cases h : k < (num u).size
  · have HD := Lib.hid (num_at u k h)
    go_enter Tryd.func47, Tryd.ntmps47
    go_wp2_with fail
    go_ret
    exact ⟨ret_int (by have := HD.out; omega), rfl⟩
  · have HZ := Lib.hid (dig_over u k (by rw [← numS]; omega))
    go_enter Tryd.func47, Tryd.ntmps47
    go_wp2_with fail
    go_ret
    exact ⟨ret_int (by rw [HZ.out]; rfl), rfl⟩

theorem trimL_le : ∀ l : List UInt8, (trimL l).length ≤ l.length
  | [] => Nat.le_refl _
  | [_] => Nat.le_refl _
  | c :: d :: r => by
    rw [trimL]; split
    · have := trimL_le (d :: r); simp at this ⊢; omega
    · exact Nat.le_refl _
theorem trim_step (s : ByteArray) (h : 1 < s.size) (h2 : s[0].toNat = 48) : trimL (s.extract 1 s.size).data.toList = trimL s.data.toList := by
  rw [drop_ext]
  have h0 := getD_drop0' s 0 (by omega)
  have h1 := getD_drop0' s 1 (by omega)
  rw [List.drop_zero] at h0
  have h3 : s.data.toList = s[0] :: s[1] :: List.drop (1 + 1) s.data.toList := by rw [← h1]; exact h0
  rw [h1, h3, trimL, if_pos h2]; rfl
theorem trim_stop (s : ByteArray) (h : ¬ (1 < s.size ∧ ∃ h : 0 < s.size, s[0].toNat = 48)) : trimL s.data.toList = s.data.toList := by
  match hl : s.data.toList with
  | [] => rfl
  | [_] => rfl
  | c :: d :: r =>
    have hsz : s.size = r.length + 2 := by rw [← len_of, hl]; rfl
    rw [trimL, if_neg]
    intro hc
    apply h
    refine ⟨by omega, by omega, ?_⟩
    rw [← head_of s (by omega), hl]; exact hc
def sizeV : Value → Nat | .string s => s.size | _ => 0

set_option maxHeartbeats 400000 in
theorem refTrim_any (s : ByteArray) (w : World) (hs : s.size ≤ 1000000000) :
    Calls Tryd.prog 37 #[.string s] w fun e w' => e = .returned (.string ⟨(trimL s.data.toList).toArray⟩) ∧ w = w' := by
  go_enter Tryd.func37, Tryd.ntmps37
  go_wp2_with fail
  go_loop [0] (fun v => ∃ t : ByteArray, v = .string t ∧ t.size ≤ 1000000000 ∧ Hid (trimL t.data.toList = trimL s.data.toList)) (fun v => sizeV v)
  case atStart => exact ⟨s, rfl, hs, rfl⟩
  case round =>
    obtain ⟨t, rfl, ht, HT⟩ := hrel
    by_cases h : 1 < t.size ∧ ∃ h : 0 < t.size, t[0].toNat = 48
    · obtain ⟨h1, h0, h2⟩ := h
      have HT2 : Hid (trimL (t.extract 1 t.size).data.toList = trimL s.data.toList) := by show _ = _; rw [trim_step t h1 h2]; exact HT.out
      have h3 : ((t[0].toNat : Int) == 48) = true := beqI h2
      clear h2 HT
      go_wp2_with fail
      go_round
      case rel => exact ⟨_, rfl, by rw [ByteArray.size_extract]; omega, HT2⟩
      case measure => simp [sizeV, ByteArray.size_extract]; omega
    · have HR : Hid (t = ⟨(trimL s.data.toList).toArray⟩) := by
        show _ = _
        rw [← HT.out, trim_stop t h, Lib.mk_data]
      by_cases h1 : 1 < t.size
      · have h3 : ((t[0].toNat : Int) == 48) = false := bneI (fun e => h ⟨h1, by omega, e⟩)
        clear h HT
        go_wp2_with fail
        go_ret
        exact ⟨ret_str HR.out, rfl⟩
      · clear h HT
        go_wp2_with fail
        go_ret
        exact ⟨ret_str HR.out, rfl⟩

theorem refLetter_int (n : Int) (h0 : 0 ≤ n) (h1 : n ≤ 9) (w : World) :
    Calls Tryd.prog 40 #[.int .i64 n] w fun e w' => e = .returned (.string ⟨#[dchr n.toNat]⟩) ∧ w = w' := by
  have := refLetter_any n.toNat (by omega) w
  rwa [Int.toNat_of_nonneg h0] at this
theorem refDigit_d (u k d : Nat) (hd : Hid (u / 10 ^ k % 10 = d)) (w : World) (hs : (num u).size ≤ 1000000000) (hk : k ≤ 1000000000) :
    Calls Tryd.prog 47 #[.string (num u), .int .i64 k] w fun e w' => e = .returned (.int .i64 d) ∧ w = w' := by
  have := refDigit_num u k w hs hk
  rwa [hd.out] at this

theorem cat1 (c : UInt8) (s : List UInt8) : Value.string ((⟨#[c]⟩ : ByteArray) ++ ⟨s.toArray⟩) = .string ⟨(c :: s).toArray⟩ := by
  congr 1

set_option maxHeartbeats 400000 in
theorem refSum_num (u v : Nat) (w : World) (hu : (num u).size ≤ 1000000) (hv : (num v).size ≤ 1000000) :
    Calls Tryd.prog 33 #[.string (num u), .string (num v)] w fun e w' => e = .returned (.string (num (u + v))) ∧ w = w' := by
  have HU := Lib.hid (numS u)
  have HV := Lib.hid (numS v)
  go_enter Tryd.func33, Tryd.ntmps33
  go_wp2_with fail
  go_loop [5, 6, 7] (fun o x i => ∃ (k c : Nat) (l : List UInt8), (k ≤ (num u).size ∨ k ≤ (num v).size) ∧ c ≤ 1 ∧ l.length ≤ k ∧ o = .string ⟨l.toArray⟩ ∧ x = .int .i64 c ∧ i = .int .i64 k ∧ Hid (c = cy u v k) ∧ Hid (l = padL k (u + v)))
    (fun _ _ i => (num u).size + (num v).size - (intOf i).toNat)
  case atStart => exact ⟨0, 0, [], Or.inl (Nat.zero_le _), by omega, Nat.le_refl _, rfl, rfl, rfl, (cy_zero u v).symm, rfl⟩
  case round =>
    obtain ⟨k, c, l, hk, hc, hl, rfl, rfl, rfl, HC, HL⟩ := hrel
    by_cases hend : k < (num u).size ∨ k < (num v).size
    · obtain ⟨d1, hd1⟩ : ∃ d, u / 10 ^ k % 10 = d := ⟨_, rfl⟩
      obtain ⟨d2, hd2⟩ : ∃ d, v / 10 ^ k % 10 = d := ⟨_, rfl⟩
      have b1 : d1 ≤ 9 := by omega
      have b2 : d2 ≤ 9 := by omega
      have HC2 : Hid (cy u v (k + 1) = (d1 + d2 + c) / 10) := by show _ = _; rw [cy_succ, hd1, hd2, HC.out]
      have HL2 : Hid (dchr ((d1 + d2 + c) % 10) :: l = padL (k + 1) (u + v)) := by
        show _ = _; rw [HL.out]; exact padL_cons _ _ _ (by rw [cy_dig, hd1, hd2, HC.out])
      have H1 := Lib.hid hd1
      have H2 := Lib.hid hd2
      clear hd1 hd2
      by_cases hlt : k < (num u).size
      all_goals
        have hlt2 : k < (num u).size ∨ k < (num v).size := hend
        go_wp2_with (first
          | (go_at_call 47; with_reducible refine (refDigit_d u k d1 H1 _ (by omega) (by omega)).mono ?_; rintro e w' ⟨rfl, rfl⟩)
          | (go_at_call 47; with_reducible refine (refDigit_d v k d2 H2 _ (by omega) (by omega)).mono ?_; rintro e w' ⟨rfl, rfl⟩)
          | (go_at_call 40; with_reducible refine (refLetter_int _ (by omega) (by omega) _).mono ?_; rintro e w' ⟨rfl, rfl⟩))
        go_round
        case rel => exact ⟨k + 1, (d1 + d2 + c) / 10, _, by omega, by omega, by simpa using hl, by exact cat1 _ _, by go_num, by go_num, HC2.out.symm, HL2⟩
        case measure => simp [intOf]; omega
    · have hku : nd u ≤ k := by rw [← HU.out]; omega
      have hkv : nd v ≤ k := by rw [← HV.out]; omega
      have hke : k = nd u ∨ k = nd v := by rw [← HU.out, ← HV.out]; omega
      rcases (show c = 0 ∨ c = 1 by omega) with h0 | h0
      · subst h0
        have HR : Hid (num (u + v) = ⟨l.toArray⟩) := by show _ = _; rw [HL.out, num, sum_none u v k hku hkv hke HC.out.symm]
        clear hku hkv hke
        go_wp2_with fail
        go_ret
        exact ⟨ret_str HR.out.symm, rfl⟩
      · subst h0
        have HR : Hid (num (u + v) = ⟨(dchr 1 :: l).toArray⟩) := by show _ = _; rw [HL.out, num, sum_some u v k hku hkv HC.out.symm]
        clear hku hkv hke
        go_wp2_with (go_at_call 40; with_reducible refine (refLetter_int _ (by omega) (by omega) _).mono ?_; rintro e w' ⟨rfl, rfl⟩)
        go_ret
        exact ⟨by rw [HR.out]; exact congrArg Ending.returned (cat1 _ l), rfl⟩

end Go.Proofs.YtgpjfgakhncdnaaDoor
