/-
  DERIVED. The walks of lorryref12's has, bit, decimal.
-/
import Derived.Test.YtmoilpkgoabopaaDoorRuQ
import Derived.Test.YtmoilpkgoabopaaDoorRuPure2
namespace Go.Proofs.YtmoilpkgoabopaaDoor.T
open Go.RowKit
set_option maxRecDepth 8000

theorem w64 {q : Nat} (h : q < 9223372036854775808) : wrap64 (q : Int) = (q : Int) := by unfold wrap64; omega
theorem bit12_e (k P : Nat) (hk : k ≤ 62) (hp : Hid (2 ^ k = P)) (w : World) :
    Calls Tryd.prog 36 #[.int .i64 k] w fun e w' => e = .returned (.int .i64 (P : Int)) ∧ w = w' := by
  go_enter Tryd.func36, Tryd.ntmps36
  go_wp2_with fail
  go_loop [3, 4] (fun n i => ∃ j p : Nat, j ≤ k ∧ i = .int .i64 j ∧ n = .int .i64 p ∧ Hid (p = 2 ^ j)) (fun _ i => k - (intOf i).toNat)
  case atStart => exact ⟨0, 1, Nat.zero_le _, rfl, rfl, rfl⟩
  case round =>
    obtain ⟨j, p, hj, rfl, rfl, HP⟩ := hrel
    by_cases hlt : j < k
    · have hp2 : 2 * p ≤ 4611686018427387904 := by have := S.pow_le62 (show j + 1 ≤ 62 by omega); rw [HP.out]; rw [Nat.pow_succ] at this; omega
      have HP2 : Hid (2 * p = 2 ^ (j + 1)) := by show _ = _; rw [HP.out, Nat.pow_succ, Nat.mul_comm]
      go_wp2_with fail
      go_round
      case rel => exact ⟨j + 1, 2 * p, by omega, by go_num, by go_num, HP2⟩
      case measure => simp [intOf]; omega
    · have hk' : j = k := by omega
      subst hk'
      have HE : Hid (p = P) := HP.out.trans hp.out
      go_wp2_with fail
      go_ret
      exact ⟨ret_int (by rw [HE.out]), rfl⟩
theorem has12_n (n k : Nat) (hn : n < 9223372036854775808) (hk : k ≤ 62) (w : World) :
    Calls Tryd.prog 32 #[.int .i64 n, .int .i64 k] w fun e w' => e = .returned (.bool (S.has n k)) ∧ w = w' := by
  have HH : Hid (S.has n k = (n / 2 ^ k % 2 == 1)) := rfl
  generalize S.has n k = r at *
  go_enter Tryd.func32, Tryd.ntmps32
  go_wp2_with fail
  go_loop [0, 5] (fun s i => ∃ j m : Nat, j ≤ k ∧ i = .int .i64 j ∧ s = .int .i64 m ∧ m < 9223372036854775808 ∧ Hid (m = n / 2 ^ j)) (fun _ i => k - (intOf i).toNat)
  case atStart => exact ⟨0, n, Nat.zero_le _, rfl, rfl, hn, by show _ = _; simp⟩
  case round =>
    obtain ⟨j, m, hj, rfl, rfl, hm, HM⟩ := hrel
    by_cases hlt : j < k
    · have e2 : ((m : Int).tdiv 2) = ((m / 2 : Nat) : Int) := by rw [Int.tdiv_eq_ediv_of_nonneg (by omega)]; omega
      have HM2 : Hid (m / 2 = n / 2 ^ (j + 1)) := by show _ = _; rw [HM.out, Nat.div_div_eq_div_mul, Nat.pow_succ]
      have hm2 : m / 2 < 9223372036854775808 := by omega
      generalize m / 2 = q at *
      go_wp2_with fail
      go_round
      case rel => exact ⟨j + 1, q, by omega, by go_num, by go_num, hm2, HM2⟩
      case measure => simp [intOf]; omega
    · have hk' : j = k := by omega
      subst hk'
      have e1 : ((m : Int).tmod 2) = ((m % 2 : Nat) : Int) := by rw [Int.tmod_eq_emod_of_nonneg (by omega)]; omega
      have HR : Hid (r = (m % 2 == 1)) := by show _ = _; rw [HH.out, HM.out]
      have h2 : m % 2 < 2 := Nat.mod_lt _ (by omega)
      generalize m % 2 = q at *
      go_wp2_with fail
      go_ret
      refine ⟨ret_bool ?_, rfl⟩
      rw [HR.out, Bool.eq_iff_iff]
      simp
      omega

theorem dec12_round {x z d : Nat} (hx : 10 ≤ x) (hd : d = x % 10) (hz : z = x / 10) {s N : List UInt8} (h : Lib.decDigits x ++ s = N) : Lib.decDigits z ++ (UInt8.ofNat (48 + d) :: s) = N := by
  rw [dec_big (by omega), List.append_assoc, ← hd, ← hz] at h
  exact h
theorem one_string (wr : World) (d : Nat) (hd : d < 10) :
    (convert 76 9 (.slice (some ⟨wr.heap.size, 0, none⟩) 1 1)).run Tryd.prog (wr.alloc (.cells #[.int .u8 (48 + (d : Int))] 5)) = .ok (.string ⟨#[UInt8.ofNat (48 + d)]⟩) (wr.alloc (.cells #[.int .u8 (48 + (d : Int))] 5)) := by
  have e : (48 + (d : Int)) = ((UInt8.ofNat (48 + d)).toNat : Int) := by rw [toNat_digit d hd]; omega
  rw [e]
  exact own_string (B := wr.heap.size) (v := .slice (some ⟨wr.heap.size, 0, none⟩) 1 1) (n := 1) (l := [UInt8.ofNat (48 + d)]) ⟨by simp [bc], .inr ⟨wr.heap.size, 1, _, rfl, Nat.le_refl _, heap_alloc_new wr _, Nat.le_refl _, by decide, rfl, rfl⟩⟩
set_option maxHeartbeats 400000 in
theorem decimal12_n (n : Nat) (hn : n ≤ 1000000000) (w : World) :
    Calls Tryd.prog 44 #[.int .i64 n] w fun e w' => e = .returned (.string (dec n)) ∧ Below w.heap.size w w' := by
  have HN : Hid (dec n = ⟨(Lib.decDigits n).toArray⟩) := rfl
  have hlen := dec_len 9 n (by omega)
  generalize dec n = r at *
  generalize hN : Lib.decDigits n = N at *
  go_enter Tryd.func44, Tryd.ntmps44
  go_wp2_with fail
  go_loopw [0, 3] (fun a b wr => ∃ (s : List UInt8) (x : Nat), b = .string ⟨s.toArray⟩ ∧ a = .int .i64 x ∧ x ≤ 1000000000 ∧ Hid (Below w.heap.size w wr) ∧ Hid (Lib.decDigits x ++ s = N)) (fun a _ _ => (intOf a).toNat)
  case atStart => exact ⟨[], n, rfl, rfl, hn, Below.refl _ _, by show _ = _; rw [List.append_nil]; exact hN⟩
  case round =>
    clear hN
    obtain ⟨s, x, rfl, rfl, hx, HB, HS⟩ := hrel
    have hsl : s.length ≤ 10 := by
      have h2 := congrArg List.length HS.out
      rw [List.length_append] at h2
      omega
    by_cases h10 : 10 ≤ x
    · obtain ⟨d, hd⟩ : ∃ d, d = x % 10 := ⟨_, rfl⟩
      obtain ⟨z, hz⟩ : ∃ z, z = x / 10 := ⟨_, rfl⟩
      have HR := Lib.hid (dec12_round h10 hd hz HS.out)
      have hd9 : d < 10 := by omega
      have hz9 : z < x := by omega
      have e1 : ((x : Int).tmod 10) = (d : Int) := by rw [Int.tmod_eq_emod_of_nonneg (by omega)]; omega
      have e2 : ((x : Int).tdiv 10) = (z : Int) := by rw [Int.tdiv_eq_ediv_of_nonneg (by omega)]; omega
      have hcv := one_string wr d hd9
      have HB2 := Lib.hid (over HB.out (below_alloc wr (.cells #[.int .u8 (48 + (d : Int))] 5)))
      clear hd hz HS
      go_wp2_with fail
      go_roundw
      case rel => exact ⟨_, z, cat1 _ _, rfl, by omega, HB2, by simpa using HR⟩
      case measure => simp [intOf]; omega
    · have hcv := one_string wr x (by omega)
      have HR : Hid (N = UInt8.ofNat (48 + x) :: s) := by show _ = _; rw [← HS.out, dec_small (by omega)]; rfl
      have HB2 := Lib.hid (over HB.out (below_alloc wr (.cells #[.int .u8 (48 + (x : Int))] 5)))
      clear HS
      go_wp2_with fail
      go_ret
      exact ⟨by rw [HN.out, HR.out]; exact congrArg Ending.returned (by simpa using cat1 (UInt8.ofNat (48 + x)) s), HB2.out⟩

end Go.Proofs.YtmoilpkgoabopaaDoor.T

