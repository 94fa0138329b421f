/-
  DERIVED. The walk of SetsSized.
-/
import Derived.Test.YtpcdpljkgnpkoaaDoorSetLaw3
namespace Go.Proofs.YtpcdpljkgnpkoaaDoor.S
open Go.RowKit
set_option maxRecDepth 8000

theorem bin_small : ∀ c, c ≤ 10 → ∀ k, k ≤ 11 → bin c k ≤ 8192 := by decide
/-- how many subsets of the sizes below j - 1 -/
def tot (c : Nat) : Nat → Nat
  | 0 => 0
  | 1 => 0
  | j + 2 => tot c (j + 1) + bin c j
theorem tot_all : ∀ c, c ≤ 10 → tot c 13 = 2 ^ c := by decide
theorem tot_small : ∀ c, c ≤ 10 → ∀ j, j ≤ 13 → tot c j ≤ 1024 := by decide
theorem tot_step (a j : Nat) (h : size a ≤ 10) (hj : j ≤ 12) : szE a ((j : Int) - 1) = 0 ∧ (szR a ((j : Int) - 1)).length + tot (size a) j = tot (size a) (j + 1) := by
  cases j with
  | zero =>
    refine ⟨by rw [szE, if_pos (by omega)], ?_⟩
    rw [szR, if_pos (by omega)]; rfl
  | succ k =>
    have hb := bin_small (size a) h k (by omega)
    rw [show ((k + 1 : Nat) : Int) - 1 = (k : Int) by omega]
    refine ⟨by rw [szE, if_pos (by rw [Int.toNat_natCast]; omega)], ?_⟩
    rw [szR, if_neg (by rw [Int.toNat_natCast]; omega), Int.toNat_natCast, szL_len, tot]
    omega
theorem szR_len (a : Nat) (z : Int) : (szR a z).length ≤ 8192 := by
  rw [szR]
  split
  · simp
  · rw [szL_len]; omega
set_option maxHeartbeats 2000000 in
theorem setsSized_walk (x : Int) (z : Int) (w : World) (hT : Tab w) :
    Calls Tryd.prog 6 #[.int .i64 x, .int .i64 z] w fun e w' => e = .returned (.bool true) ∧ Below w.heap.size w w' := by
  have HP := Lib.hid (plain_z x)
  have ha := plain_lt x
  generalize plainN x = a at *
  have HS := Lib.hid (setSized_n a z ha)
  have HR := Lib.hid (refSized_n a z ha)
  have HSA := Lib.hid (fun z => setSized_n a z ha)
  have HZ := Lib.hid (refSize_n a ha)
  have hs63 : size a ≤ 63 := cnt_le 63 a
  have HST := Lib.hid (tot_step a)
  have hE : ∃ E : Nat, szE a z = (E : Int) ∧ E ≤ 4 := by
    rw [szE]
    split
    · exact ⟨0, rfl, by omega⟩
    · exact ⟨4, rfl, by omega⟩
  obtain ⟨E, hE1, hE4⟩ := hE
  rw [hE1] at HS HR
  have hlr := szR_len a z
  generalize szR a z = R at *
  obtain ⟨s, hs⟩ : ∃ s, size a = s := ⟨_, rfl⟩
  rw [hs] at HZ hs63 HST
  obtain ⟨m, hm⟩ : ∃ m, R.length = m := ⟨_, rfl⟩
  rw [hm] at hlr
  have HM := Lib.hid hm
  have ha9 : a < 9223372036854775808 := by simpa using ha
  clear hE1 ha hm hs
  go_enter Tryd.func6, Tryd.ntmps6
  go_wp2_with fail
  refine (HP.out _).mono ?_
  rintro e w' ⟨rfl, rfl⟩
  go_wp2_with fail
  refine (HS.out _).mono ?_
  rintro e w1 ⟨v1, rfl, o1, b1⟩
  have B1 := Lib.hid b1
  have T1 := hT.over b1
  clear b1
  go_wp2_with fail
  refine (HR.out _).mono ?_
  rintro e w2 ⟨v2, rfl, o2, b2⟩
  have O1 := Lib.hid ((o1.weak.frame b2))
  have B2 := Lib.hid (over5 B1.out b2)
  have T2 := T1.over b2
  clear b2 o1 T1 B1 HS HR
  obtain ⟨A1, c1, rfl, hc1, e1⟩ := O1.out.shape
  obtain ⟨A2, c2, rfl, _, e2⟩ := o2.weak.shape
  have HSM := Lib.hid (same_n A1 A2 c1 c2 R R (by rw [HM.out]; omega) w2 e1 e2)
  rw [HM.out] at HSM hc1
  rw [HM.out]
  clear e1 e2 o2 O1
  go_wp2_with fail
  refine HSM.out.mono ?_
  rintro e w3 ⟨rfl, b3⟩
  have B3 := Lib.hid (over5 B2.out b3)
  have T3 := T2.over b3
  clear b3 T2 B2 HSM
  by_cases h10 : 10 < s
  · go_wp2_with fail
    refine (HZ.out _).mono ?_
    rintro e w' ⟨rfl, rfl⟩
    go_wp2_with fail
    refine (awake_n _ T3).mono ?_
    rintro e w5 ⟨rfl, b5⟩
    have B5 := over5 B3.out b5
    go_wp2_with fail
    go_ret
    exact ⟨rfl, B5⟩
  have h10' : s ≤ 10 := by omega
  have HTS := Lib.hid (tot_small s h10')
  have hall := tot_all s h10'
  have HALL := Lib.hid hall
  have hsh : wrap64 (2 ^ s) = ((tot s 13 : Nat) : Int) := by
    have hp : 2 ^ s ≤ 1024 := Nat.pow_le_pow_right (by omega) h10'
    have := w64 (q := 2 ^ s) (by omega)
    rw [hall, ← this]; simp
  clear hall
  go_wp2_with fail
  refine (HZ.out _).mono ?_
  rintro e w' ⟨rfl, rfl⟩
  go_wp2_with fail
  go_loopw [9, 10] (fun n k wr => ∃ j N : Nat, j ≤ 13 ∧ k = .int .i64 ((j : Int) - 1) ∧ n = .int .i64 N ∧ N ≤ 1024 ∧ Hid (N = tot s j) ∧ Hid (Below w3.heap.size w3 wr)) (fun _ k _ => (12 - intOf k).toNat)
  case atStart => exact ⟨0, 0, Nat.zero_le _, rfl, rfl, by omega, rfl, Below.refl _ _⟩
  case round =>
    obtain ⟨j, N, hj, rfl, rfl, hN, HN, HB⟩ := hrel
    by_cases hlt : j < 13
    · have hst := HST.out j h10' (by omega)
      have HSJ := Lib.hid (HSA.out ((j : Int) - 1))
      rw [hst.1] at HSJ
      obtain ⟨d, hd⟩ : ∃ d, (szR a ((j : Int) - 1)).length = d := ⟨_, rfl⟩
      have hst2 := hst.2
      rw [hd, ← HN.out] at hst2
      have hN2 : d + N ≤ 1024 := by rw [hst2]; exact HTS.out _ (by omega)
      have HN2 : Hid (N + d = tot s (j + 1)) := by show _ = _; omega
      generalize szR a ((j : Int) - 1) = X at *
      have HD := Lib.hid hd
      have hjI : (j : Int) - 1 ≤ 11 := by omega
      clear hst hst2 hd
      go_wp2_with fail
      refine (HSJ.out _).mono ?_
      rintro e w4 ⟨v4, rfl, o4, b4⟩
      obtain ⟨A4, c4, rfl, hc4, _⟩ := o4.weak.shape
      rw [HD.out] at hc4
      rw [HD.out]
      have B4 := Lib.hid (over5 HB.out b4)
      clear o4 b4
      go_wp2_with fail
      go_roundw
      case rel => exact ⟨j + 1, N + d, by omega, by go_num, by go_num, by omega, HN2, B4⟩
      case measure => simp [intOf]; omega
    · have hj' : j = 13 := by omega
      subst hj'
      have HNE := HN.out
      subst HNE
      have T4 := T3.over HB.out
      go_wp2_with fail
      refine (HZ.out _).mono ?_
      rintro e w' ⟨rfl, rfl⟩
      go_wp2_with fail
      refine (awake_n _ T4).mono ?_
      rintro e w5 ⟨rfl, b5⟩
      have B5 := over5 (over5 B3.out HB.out) b5
      go_wp2_with fail
      go_ret
      exact ⟨rfl, B5⟩

end Go.Proofs.YtpcdpljkgnpkoaaDoor.S

