/-
  DERIVED. The walks of lorryref05's Bit, Has, Size.
-/
import Derived.Test.YtalfonpkefhlmaaDoorIntRow
import Derived.Test.YtalfonpkefhlmaaDoorSetPure
namespace Go.Proofs.YtalfonpkefhlmaaDoor.S
open Go.RowKit
set_option maxRecDepth 8000

theorem ret_bool {a b : Bool} (h : a = b) : Ending.returned (.bool a) = .returned (.bool b) := by rw [h]
theorem ret_int {k : IntKind} {a b : Int} (h : a = b) : Ending.returned (.int k a) = .returned (.int k b) := by rw [h]
theorem over5 {w W w1 : World} (h : Below w.heap.size w W) (b : Below W.heap.size W w1) : Below w.heap.size w w1 := h.trans (b.mono h.size)

theorem w64 {q : Nat} (h : q < 9223372036854775808) : wrap64 (q : Int) = (q : Int) := by unfold wrap64; omega
theorem refBit_e (k P : Nat) (hk : k ≤ 62) (hp : Hid (2 ^ k = P)) (w : World) :
    Calls Tryd.prog 45 #[.int .i64 k] w fun e w' => e = .returned (.int .i64 (P : Int)) ∧ w = w' := by
  go_enter Tryd.func45, Tryd.ntmps45
  go_wp2_with fail
  go_loop [3, 4] (fun n i => ∃ j p : Nat, j ≤ k ∧ i = .int .i64 j ∧ n = .int .i64 p ∧ Hid (p = 2 ^ j)) (fun _ i => k - (intOf i).toNat)
  case atStart => exact ⟨0, 1, Nat.zero_le _, rfl, rfl, rfl⟩
  case round =>
    obtain ⟨j, p, hj, rfl, rfl, HP⟩ := hrel
    by_cases hlt : j < k
    · have hp2 : 2 * p ≤ 4611686018427387904 := by have := pow_le62 (show j + 1 ≤ 62 by omega); rw [HP.out]; rw [Nat.pow_succ] at this; omega
      have HP2 : Hid (2 * p = 2 ^ (j + 1)) := by show _ = _; rw [HP.out, Nat.pow_succ, Nat.mul_comm]
      go_wp2_with fail
      go_round
      case rel => exact ⟨j + 1, 2 * p, by omega, by go_num, by go_num, HP2⟩
      case measure => simp [intOf]; omega
    · have hk' : j = k := by omega
      subst hk'
      have HE : Hid (p = P) := HP.out.trans hp.out
      go_wp2_with fail
      go_ret
      exact ⟨ret_int (by rw [HE.out]), rfl⟩
theorem refHas_n (n k : Nat) (hn : n < 2 ^ 63) (hk : k ≤ 62) (w : World) :
    Calls Tryd.prog 33 #[.int .i64 n, .int .i64 k] w fun e w' => e = .returned (.bool (has n k)) ∧ w = w' := by
  obtain ⟨p, hp⟩ : ∃ p, 2 ^ k = p := ⟨_, rfl⟩
  have hp0 : 0 < p := by rw [← hp]; exact Nat.pow_pos (by omega)
  have hpb := pow_le62 hk
  rw [hp] at hpb
  have HH : Hid (has n k = (n / p % 2 == 1)) := by show _ = _; rw [has, hp]
  have HP := Lib.hid hp
  have hn' : n < 9223372036854775808 := by simpa using hn
  obtain ⟨q, hq⟩ : ∃ q, n / p = q := ⟨_, rfl⟩
  have hq1 : ((n : Int) / (p : Int)) = (q : Int) := by rw [← hq]; simp
  have hqn : q < 9223372036854775808 := by rw [← hq]; exact Nat.lt_of_le_of_lt (Nat.div_le_self _ _) hn'
  have hqw := w64 hqn
  have hqm : ((q : Int).tmod 2) = ((q % 2 : Nat) : Int) := by rw [Int.tmod_eq_emod_of_nonneg (by omega)]; omega
  have hq2 : ((n : Int).tdiv (p : Int)) = (q : Int) := by rw [Int.tdiv_eq_ediv_of_nonneg (by omega)]; exact hq1
  rw [hq] at HH
  clear hp hq hn
  go_enter Tryd.func33, Tryd.ntmps33
  go_wp2_with fail
  refine (refBit_e k p hk HP _).mono ?_
  rintro e w' ⟨rfl, rfl⟩
  go_wp2_with fail
  go_ret
  refine ⟨ret_bool ?_, rfl⟩
  rw [HH.out, Bool.eq_iff_iff]
  simp
  omega
theorem refHas_i (n : Nat) (i : Int) (hn : n < 2 ^ 63) (w : World) :
    Calls Tryd.prog 33 #[.int .i64 n, .int .i64 i] w fun e w' => e = .returned (.bool (hasI n i)) ∧ w = w' := by
  by_cases h0 : i < 0
  · have HK : Hid (hasI n i = false) := hasI_neg h0
    go_enter Tryd.func33, Tryd.ntmps33
    go_wp2_with fail
    go_ret
    exact ⟨ret_bool HK.out.symm, rfl⟩
  by_cases h1 : 62 < i
  · have HK : Hid (hasI n i = false) := hasI_big h1
    go_enter Tryd.func33, Tryd.ntmps33
    go_wp2_with fail
    go_ret
    exact ⟨ret_bool HK.out.symm, rfl⟩
  obtain ⟨k, rfl⟩ := Int.eq_ofNat_of_zero_le (show 0 ≤ i by omega)
  have := refHas_n n k hn (by omega) w
  rwa [← hasI_nat (show k ≤ 62 by omega)] at this
theorem refHas_e (n k : Nat) (b : Bool) (hn : n < 2 ^ 63) (hk : k ≤ 62) (hb : Hid (has n k = b)) (w : World) :
    Calls Tryd.prog 33 #[.int .i64 n, .int .i64 k] w fun e w' => e = .returned (.bool b) ∧ w = w' := by
  have := refHas_n n k hn hk w
  rwa [hb.out] at this
end Go.Proofs.YtalfonpkefhlmaaDoor.S

