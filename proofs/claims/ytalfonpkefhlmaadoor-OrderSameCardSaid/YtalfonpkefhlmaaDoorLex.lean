/-
  DERIVED. The walks of the small tests on bytes, and of both functions Name.
-/
import Derived.Test.YtalfonpkefhlmaaDoorPure
import Derived.Test.YtalfonpkefhlmaaDoorRows
import Derived.WalkKit
import Derived.WalkSpells
import Derived.WalkLawsBesides
namespace Go.Proofs.YtalfonpkefhlmaaDoor
open Go.RowKit

theorem ret_bool {a b : Bool} (h : a = b) : Ending.returned (.bool a) = .returned (.bool b) := by rw [h]

set_option maxHeartbeats 400000 in
theorem isDigit_any (c : Nat) (w : World) :
    Calls Tryd.prog 46 #[.int .u8 c] w fun e w' => e = .returned (.bool (dig c)) ∧ w = w' := by
  go_enter Tryd.func46, Tryd.ntmps46
  go_wp2
  all_goals
    go_ret
    exact ⟨ret_bool (by rw [Bool.eq_iff_iff]; simp [dig]; omega), rfl⟩

set_option maxHeartbeats 400000 in
theorem isLetter_any (c : Nat) (w : World) :
    Calls Tryd.prog 47 #[.int .u8 c] w fun e w' => e = .returned (.bool (let1 c)) ∧ w = w' := by
  go_enter Tryd.func47, Tryd.ntmps47
  go_wp2
  all_goals
    go_ret
    exact ⟨ret_bool (by rw [Bool.eq_iff_iff]; simp [let1]; omega), rfl⟩

/-- what the walk asks of a string that is not empty -/
theorem isE (s : ByteArray) (h : 0 < s.size) : s.toList.isEmpty = false := by
  rw [ByteArray.toList_eq]; simpa using ne_of s h
theorem notE (s : ByteArray) (h : 0 < s.size) : ¬ s.toList = [] := by
  rw [ByteArray.toList_eq]; exact ne_of s h
theorem beqE (s : ByteArray) (h : 0 < s.size) : (s.toList == []) = false := by
  rw [ByteArray.toList_eq]; simpa using ne_of s h

set_option maxHeartbeats 400000 in
theorem name_any (s : ByteArray) (w : World) :
    Calls Tryd.prog 35 #[.string s] w fun e w' => e = .returned (.bool (nameB s.data.toList)) ∧ w = w' := by
  by_cases h0 : s.size = 0
  · rw [nameB_no _ (Or.inl (by rw [empty_of s h0]))]
    have hs := empty_of s h0
    subst hs
    go_enter Tryd.func35, Tryd.ntmps35
    go_wp2
    go_ret
    exact ⟨rfl, rfl⟩
  have hpos : 0 < s.size := by omega
  have hE := isE s hpos
  have hE' := notE s hpos
  by_cases h16 : s.size ≤ 16
  · by_cases hd : dig (s[0].toNat) = true
    · have HN : Hid (nameB s.data.toList = false) := nameB_no _ (Or.inr (Or.inr (by rw [head_of s hpos]; exact hd)))
      go_enter Tryd.func35, Tryd.ntmps35
      go_wp2_with (go_at_call 46; refine (isDigit_any _ _).mono ?_; rintro e w' ⟨rfl, rfl⟩)
      go_ret
      exact ⟨ret_bool HN.out.symm, rfl⟩
    have hd : dig (s[0].toNat) = false := by simpa using hd
    have HN : Hid (nameB s.data.toList = s.data.toList.all fun c => nam c.toNat) := nameB_all _ (ne_of s hpos) (by simpa using h16) (by rw [head_of s hpos]; exact hd)
    go_enter Tryd.func35, Tryd.ntmps35
    go_wp2_with (go_at_call 46; refine (isDigit_any _ _).mono ?_; rintro e w' ⟨rfl, rfl⟩)
    go_loop [3] (fun i => ∃ k : Nat, k ≤ s.size ∧ i = .int .i64 k ∧ Hid ((s.data.toList.take k).all (fun c => nam c.toNat) = true)) (fun i => s.size - (intOf i).toNat)
    case atStart => exact ⟨0, Nat.zero_le _, rfl, by rw [List.take_zero]; rfl⟩
    case round =>
      obtain ⟨k, hk, rfl, HA⟩ := hrel
      by_cases hlt : k < s.size
      · go_wp2_with (first | (go_at_call 46; refine (isDigit_any _ _).mono ?_; rintro e w' ⟨rfl, rfl⟩) | (go_at_call 47; refine (isLetter_any _ _).mono ?_; rintro e w' ⟨rfl, rfl⟩))
        all_goals first
          | (have hb := nam4 (c := s[k].toNat) (by assumption) (by assumption) (by assumption)
             go_ret
             exact ⟨ret_bool (by rw [HN.out, all_stop s _ k hlt hb]), rfl⟩)
          | (go_round
             case rel => exact ⟨k + 1, by omega, by go_num, all_step s _ k hlt HA.out (by first | exact nam1 (by assumption) | exact nam2 (by assumption) | exact nam3 (by assumption))⟩
             case measure => simp [intOf]; omega)
      · have hk' : k = s.size := by omega
        subst hk'
        go_wp2
        go_ret
        exact ⟨ret_bool (by rw [HN.out, all_end s _ HA.out]), rfl⟩
  · have HN : Hid (nameB s.data.toList = false) := nameB_no _ (Or.inr (Or.inl (by simp; omega)))
    go_enter Tryd.func35, Tryd.ntmps35
    go_wp2
    go_ret
    exact ⟨ret_bool HN.out.symm, rfl⟩

end Go.Proofs.YtalfonpkefhlmaaDoor

