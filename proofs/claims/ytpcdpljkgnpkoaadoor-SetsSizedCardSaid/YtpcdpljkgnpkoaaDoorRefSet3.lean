/-
  DERIVED. The walks of lorryref05's Of and Subsets.
-/
import Derived.Test.YtpcdpljkgnpkoaaDoorRefSet2
namespace Go.Proofs.YtpcdpljkgnpkoaaDoor.S
open Go.RowKit
set_option maxRecDepth 8000

def listZ (n : Nat) (z : Nat → Int) : List Int := (List.range n).map z
theorem listZ_len (n : Nat) (z : Nat → Int) : (listZ n z).length = n := by simp [listZ]
theorem listZ_drop {n k : Nat} (z : Nat → Int) (h : k < n) : (listZ n z).drop k = z k :: (listZ n z).drop (k + 1) := by
  rw [List.drop_eq_getElem_cons (by rw [listZ_len]; exact h)]
  congr 1
  simp [listZ]
theorem listZ_end (n : Nat) (z : Nat → Int) : (listZ n z).drop n = [] := List.drop_of_length_le (by rw [listZ_len]; exact Nat.le_refl _)
theorem ret_pair {a b c d : Int} (h : (a, b) = (c, d)) : Ending.returned (.tuple #[.int .i64 a, .int .i64 b]) = .returned (.tuple #[.int .i64 c, .int .i64 d]) := by
  injection h with h1 h2; rw [h1, h2]
set_option maxHeartbeats 800000 in
theorem refOf_n (u : Value) (n : Nat) (z : Nat → Int) (a b : Int) (hr : ofR 0 (listZ n z) = (a, b)) (hn9 : n ≤ maxLen) (w : World) (hu : SlV w u n (Vi z)) :
    Calls Tryd.prog 21 #[u] w fun e w' => e = .returned (.tuple #[.int .i64 a, .int .i64 b]) ∧ w = w' := by
  obtain ⟨oa, c, rfl, ha⟩ := hu
  have HA := Lib.hid ha
  have HR := Lib.hid hr
  unfold maxLen at hn9
  clear ha hr
  go_enter Tryd.func21, Tryd.ntmps21
  go_wp2_with fail
  go_loop [4, 5] (fun s i => ∃ k m : Nat, k ≤ n ∧ i = .int .i64 k ∧ s = .int .i64 m ∧ m < 9223372036854775808 ∧ Hid (ofR m ((listZ n z).drop k) = (a, b))) (fun _ i => n - (intOf i).toNat)
  case atStart => exact ⟨0, 0, Nat.zero_le _, rfl, rfl, by omega, HR⟩
  case round =>
    clear HR
    obtain ⟨k, m, hk, rfl, rfl, hm, HR⟩ := hrel
    by_cases hlt : k < n
    · obtain ⟨ad, rfl, hab, hc⟩ := HA.out k hlt
      unfold Vi at hc
      have HD := Lib.hid (listZ_drop z hlt)
      obtain ⟨x, hx⟩ : ∃ x, z k = x := ⟨_, rfl⟩
      rw [hx] at hc HD
      clear hx
      by_cases h0 : x < 0
      · have HK : Hid ((0, 2) = (a, b)) := by show _ = _; have := HR.out; rw [HD.out, ofR_bad (.inl h0)] at this; exact this
        go_wp2_with fail
        go_ret2
        exact ⟨ret_pair HK.out, rfl⟩
      by_cases h1 : 62 < x
      · have HK : Hid ((0, 2) = (a, b)) := by show _ = _; have := HR.out; rw [HD.out, ofR_bad (.inr h1)] at this; exact this
        go_wp2_with fail
        go_ret2
        exact ⟨ret_pair HK.out, rfl⟩
      obtain ⟨j, rfl⟩ := Int.eq_ofNat_of_zero_le (show 0 ≤ x by omega)
      have hj : j ≤ 62 := by omega
      cases hh : has m j
      · have HQ := Lib.hid hh
        obtain ⟨p, hp⟩ : ∃ p, 2 ^ j = p := ⟨_, rfl⟩
        have HP := Lib.hid hp
        have hmp : m + p < 9223372036854775808 := by have := add_lt (by simpa using hm) hj hh; rw [hp] at this; simpa using this
        have HR2 : Hid (ofR (m + p) ((listZ n z).drop (k + 1)) = (a, b)) := by show _ = _; have := HR.out; rw [HD.out, ofR_step hj hh, hp] at this; exact this
        clear hh hp
        go_wp2_with fail
        refine (refHas_e m j false (by simpa using hm) hj HQ _).mono ?_
        rintro e w' ⟨rfl, rfl⟩
        go_wp2_with fail
        refine (refBit_e j p hj HP _).mono ?_
        rintro e w' ⟨rfl, rfl⟩
        go_wp2_with fail
        go_round
        case rel => exact ⟨k + 1, m + p, by omega, by go_num, by go_num, hmp, HR2⟩
        case measure => simp [intOf]; omega
      · have HQ := Lib.hid hh
        have HK : Hid ((0, 6) = (a, b)) := by show _ = _; have := HR.out; rw [HD.out, ofR_twice hj hh] at this; exact this
        clear hh
        go_wp2_with fail
        refine (refHas_e m j true (by simpa using hm) hj HQ _).mono ?_
        rintro e w' ⟨rfl, rfl⟩
        go_wp2_with fail
        go_ret2
        exact ⟨ret_pair HK.out, rfl⟩
    · have hk' : k = n := by omega
      subst hk'
      have HK : Hid (((m : Int), (0 : Int)) = (a, b)) := by show _ = _; have := HR.out; rw [listZ_end] at this; exact this
      go_wp2_with fail
      go_ret2
      exact ⟨ret_pair HK.out, rfl⟩

end Go.Proofs.YtpcdpljkgnpkoaaDoor.S

