/-
  DERIVED. The walk of RatioField.
-/
import Derived.Test.YthamlnolfagpiaaGreatDoorRatioLaw
namespace Go.Proofs.YthamlnolfagpiaaGreatDoor.D
open Go.RowKit
set_option maxRecDepth 8000

theorem rb (a : ByteArray) (q : Bool) (hq : rightR a.data.toList = q) (ha : a.size ≤ 100000) : Hid (∀ w : World, Tab w → Calls Tryz.prog 14 #[.string a] w fun e w' => e = .returned (.bool q) ∧ Below w.heap.size w w') := by
  intro w ht
  have := rRight_any a ha w ht
  rwa [hq] at this
set_option maxHeartbeats 2000000 in
theorem ratioField_good (r s t : Rat) (hr : (rtx r).size ≤ 100) (hs : (rtx s).size ≤ 100) (ht : (rtx t).size ≤ 100) (w : World) (hT : Tab w) :
    Calls Tryz.prog 6 #[.string (rtx r), .string (rtx s), .string (rtx t)] w fun e w' => e = .returned (.bool true) ∧ Below w.heap.size w w' := by
  have zr := sz_of hr
  have zs := sz_of hs
  have zt := sz_of ht
  have R1 := rb (rtx r) true (rightR_rtx (sz_mono zr (by omega))) (by omega)
  have R2 := rb (rtx s) true (rightR_rtx (sz_mono zs (by omega))) (by omega)
  have R3 := rb (rtx t) true (rightR_rtx (sz_mono zt (by omega))) (by omega)
  obtain ⟨A, hA⟩ : ∃ v, r + s = v := ⟨_, rfl⟩
  obtain ⟨X, hX⟩ : ∃ v, A * t = v := ⟨_, rfl⟩
  obtain ⟨Y, hY⟩ : ∃ v, r * t = v := ⟨_, rfl⟩
  obtain ⟨Z, hZ⟩ : ∃ v, s * t = v := ⟨_, rfl⟩
  have zA : Sz 201 A := by rw [← hA]; exact sz_add zr zs
  have zY : Sz 200 Y := by rw [← hY]; exact sz_mul zr zt
  have zZ : Sz 200 Z := by rw [← hZ]; exact sz_mul zs zt
  have S1 := Lib.hid (rAdd_r r s A hA (sz_mono zr (by omega)) (sz_mono zs (by omega)))
  have S2 := Lib.hid (rAdd_r s r A (by rw [Rat.add_comm]; exact hA) (sz_mono zs (by omega)) (sz_mono zr (by omega)))
  have S3 := Lib.hid (rMul_r A t X hX (sz_mono zA (by omega)) (sz_mono zt (by omega)))
  have S4 := Lib.hid (rMul_r r t Y hY (sz_mono zr (by omega)) (sz_mono zt (by omega)))
  have S5 := Lib.hid (rMul_r s t Z hZ (sz_mono zs (by omega)) (sz_mono zt (by omega)))
  have S6 := Lib.hid (rAdd_r Y Z X (by rw [← hY, ← hZ, ← hX, ← hA, Rat.add_mul]) (sz_mono zY (by omega)) (sz_mono zZ (by omega)))
  have S7 := Lib.hid (rSub_r A s r (by rw [← hA, Rat.add_sub_cancel]) (sz_mono zA (by omega)) (sz_mono zs (by omega)))
  have e0 := zero_eqR t
  by_cases h0 : t = 0
  · have S8 : Hid (∀ w : World, Tab w → Calls Tryz.prog 30 #[.string (rtx Z), .string (rtx t)] w fun e w' => e = .returned (.tuple #[.string ⟨#[]⟩, .int .i64 10]) ∧ Below w.heap.size w w') := by
      intro w ht
      rw [h0]
      exact rDiv_zero Z (sz_mono zZ (by omega)) w ht
    rw [decide_eq_true (by rw [h0]; rfl)] at e0
    clear h0 hA hX hY hZ zr zs zt zA zY zZ
    go_enter Tryz.func6, Tryz.ntmps6
    have B0 : Below w.heap.size w w := Below.refl _ _
    have T0 := hT
    go_wp2_with fail
    refine (R1.out _ T0).mono ?_
    rintro e w1 ⟨rfl, b1⟩
    have B1 := over4 B0 b1
    have T1 := T0.below (Nat.le_refl _) b1
    clear B0 b1 T0
    go_wp2_with fail
    refine (R2.out _ T1).mono ?_
    rintro e w2 ⟨rfl, b2⟩
    have B2 := over4 B1 b2
    have T2 := T1.below (Nat.le_refl _) b2
    clear B1 b2 T1
    go_wp2_with fail
    refine (R3.out _ T2).mono ?_
    rintro e w3 ⟨rfl, b3⟩
    have B3 := over4 B2 b3
    have T3 := T2.below (Nat.le_refl _) b3
    clear B2 b3 T2
    go_wp2_with fail
    refine (S1.out _ T3).mono ?_
    rintro e w4 ⟨rfl, b4⟩
    have B4 := over4 B3 b4
    have T4 := T3.below (Nat.le_refl _) b4
    clear B3 b4 T3
    go_wp2_with fail
    refine (S2.out _ T4).mono ?_
    rintro e w5 ⟨rfl, b5⟩
    have B5 := over4 B4 b5
    have T5 := T4.below (Nat.le_refl _) b5
    clear B4 b5 T4
    go_wp2_with fail
    refine (S3.out _ T5).mono ?_
    rintro e w6 ⟨rfl, b6⟩
    have B6 := over4 B5 b6
    have T6 := T5.below (Nat.le_refl _) b6
    clear B5 b6 T5
    go_wp2_with fail
    refine (S4.out _ T6).mono ?_
    rintro e w7 ⟨rfl, b7⟩
    have B7 := over4 B6 b7
    have T7 := T6.below (Nat.le_refl _) b7
    clear B6 b7 T6
    go_wp2_with fail
    refine (S5.out _ T7).mono ?_
    rintro e w8 ⟨rfl, b8⟩
    have B8 := over4 B7 b8
    have T8 := T7.below (Nat.le_refl _) b8
    clear B7 b8 T7
    go_wp2_with fail
    refine (S6.out _ T8).mono ?_
    rintro e w9 ⟨rfl, b9⟩
    have B9 := over4 B8 b9
    have T9 := T8.below (Nat.le_refl _) b9
    clear B8 b9 T8
    go_wp2_with fail
    refine (S7.out _ T9).mono ?_
    rintro e w10 ⟨rfl, b10⟩
    have B10 := over4 B9 b10
    have T10 := T9.below (Nat.le_refl _) b10
    clear B9 b10 T9
    go_wp2_with fail
    refine (S8.out _ T10).mono ?_
    rintro e w11 ⟨rfl, b11⟩
    have B11 := over4 B10 b11
    have T11 := T10.below (Nat.le_refl _) b11
    clear B10 b11 T10
    go_wp2_with fail
    refine (awake_any _ T11).mono ?_
    rintro e w12 ⟨rfl, b12⟩
    have B12 := over4 B11 b12
    have T12 := T11.below (Nat.le_refl _) b12
    clear B11 b12 T11
    go_wp2_with fail
    go_ret
    exact ⟨rfl, B12⟩
  · have S8 := Lib.hid (rDiv_r Z t s h0 (by rw [← hZ, Rat.mul_div_cancel h0]) (sz_mono zZ (by omega)) (sz_mono zt (by omega)))
    rw [decide_eq_false (rat_num_ne h0)] at e0
    clear h0 hA hX hY hZ zr zs zt zA zY zZ
    go_enter Tryz.func6, Tryz.ntmps6
    have B0 : Below w.heap.size w w := Below.refl _ _
    have T0 := hT
    go_wp2_with fail
    refine (R1.out _ T0).mono ?_
    rintro e w1 ⟨rfl, b1⟩
    have B1 := over4 B0 b1
    have T1 := T0.below (Nat.le_refl _) b1
    clear B0 b1 T0
    go_wp2_with fail
    refine (R2.out _ T1).mono ?_
    rintro e w2 ⟨rfl, b2⟩
    have B2 := over4 B1 b2
    have T2 := T1.below (Nat.le_refl _) b2
    clear B1 b2 T1
    go_wp2_with fail
    refine (R3.out _ T2).mono ?_
    rintro e w3 ⟨rfl, b3⟩
    have B3 := over4 B2 b3
    have T3 := T2.below (Nat.le_refl _) b3
    clear B2 b3 T2
    go_wp2_with fail
    refine (S1.out _ T3).mono ?_
    rintro e w4 ⟨rfl, b4⟩
    have B4 := over4 B3 b4
    have T4 := T3.below (Nat.le_refl _) b4
    clear B3 b4 T3
    go_wp2_with fail
    refine (S2.out _ T4).mono ?_
    rintro e w5 ⟨rfl, b5⟩
    have B5 := over4 B4 b5
    have T5 := T4.below (Nat.le_refl _) b5
    clear B4 b5 T4
    go_wp2_with fail
    refine (S3.out _ T5).mono ?_
    rintro e w6 ⟨rfl, b6⟩
    have B6 := over4 B5 b6
    have T6 := T5.below (Nat.le_refl _) b6
    clear B5 b6 T5
    go_wp2_with fail
    refine (S4.out _ T6).mono ?_
    rintro e w7 ⟨rfl, b7⟩
    have B7 := over4 B6 b7
    have T7 := T6.below (Nat.le_refl _) b7
    clear B6 b7 T6
    go_wp2_with fail
    refine (S5.out _ T7).mono ?_
    rintro e w8 ⟨rfl, b8⟩
    have B8 := over4 B7 b8
    have T8 := T7.below (Nat.le_refl _) b8
    clear B7 b8 T7
    go_wp2_with fail
    refine (S6.out _ T8).mono ?_
    rintro e w9 ⟨rfl, b9⟩
    have B9 := over4 B8 b9
    have T9 := T8.below (Nat.le_refl _) b9
    clear B8 b9 T8
    go_wp2_with fail
    refine (S7.out _ T9).mono ?_
    rintro e w10 ⟨rfl, b10⟩
    have B10 := over4 B9 b10
    have T10 := T9.below (Nat.le_refl _) b10
    clear B9 b10 T9
    go_wp2_with fail
    refine (S8.out _ T10).mono ?_
    rintro e w11 ⟨rfl, b11⟩
    have B11 := over4 B10 b11
    have T11 := T10.below (Nat.le_refl _) b11
    clear B10 b11 T10
    go_wp2_with fail
    refine (awake_any _ T11).mono ?_
    rintro e w12 ⟨rfl, b12⟩
    have B12 := over4 B11 b12
    have T12 := T11.below (Nat.le_refl _) b12
    clear B11 b12 T11
    go_wp2_with fail
    go_ret
    exact ⟨rfl, B12⟩
set_option maxHeartbeats 1000000 in
theorem ratioField_walk (a b c : ByteArray) (w : World) (hT : Tab w) :
    Calls Tryz.prog 6 #[.string a, .string b, .string c] w fun e w' => e = .returned (.bool true) ∧ Below w.heap.size w w' := by
  by_cases ha : 100 < a.size
  · go_enter Tryz.func6, Tryz.ntmps6
    have B0 : Below w.heap.size w w := Below.refl _ _
    have T0 := hT
    go_wp2_with fail
    refine (awake_any _ T0).mono ?_
    rintro e w1 ⟨rfl, b1⟩
    have B1 := over4 B0 b1
    have T1 := T0.below (Nat.le_refl _) b1
    clear B0 b1 T0
    go_wp2_with fail
    go_ret
    exact ⟨rfl, B1⟩
  by_cases hb : 100 < b.size
  · go_enter Tryz.func6, Tryz.ntmps6
    have B0 : Below w.heap.size w w := Below.refl _ _
    have T0 := hT
    go_wp2_with fail
    refine (awake_any _ T0).mono ?_
    rintro e w1 ⟨rfl, b1⟩
    have B1 := over4 B0 b1
    have T1 := T0.below (Nat.le_refl _) b1
    clear B0 b1 T0
    go_wp2_with fail
    go_ret
    exact ⟨rfl, B1⟩
  by_cases hc : 100 < c.size
  · go_enter Tryz.func6, Tryz.ntmps6
    have B0 : Below w.heap.size w w := Below.refl _ _
    have T0 := hT
    go_wp2_with fail
    refine (awake_any _ T0).mono ?_
    rintro e w1 ⟨rfl, b1⟩
    have B1 := over4 B0 b1
    have T1 := T0.below (Nat.le_refl _) b1
    clear B0 b1 T0
    go_wp2_with fail
    go_ret
    exact ⟨rfl, B1⟩
  cases r1 : rightR a.data.toList
  · have R1 := rb a false r1 (by omega)
    clear r1
    go_enter Tryz.func6, Tryz.ntmps6
    have B0 : Below w.heap.size w w := Below.refl _ _
    have T0 := hT
    go_wp2_with fail
    refine (R1.out _ T0).mono ?_
    rintro e w1 ⟨rfl, b1⟩
    have B1 := over4 B0 b1
    have T1 := T0.below (Nat.le_refl _) b1
    clear B0 b1 T0
    go_wp2_with fail
    refine (awake_any _ T1).mono ?_
    rintro e w2 ⟨rfl, b2⟩
    have B2 := over4 B1 b2
    have T2 := T1.below (Nat.le_refl _) b2
    clear B1 b2 T1
    go_wp2_with fail
    go_ret
    exact ⟨rfl, B2⟩
  cases r2 : rightR b.data.toList
  · have R1 := rb a true r1 (by omega)
    have R2 := rb b false r2 (by omega)
    clear r1 r2
    go_enter Tryz.func6, Tryz.ntmps6
    have B0 : Below w.heap.size w w := Below.refl _ _
    have T0 := hT
    go_wp2_with fail
    refine (R1.out _ T0).mono ?_
    rintro e w1 ⟨rfl, b1⟩
    have B1 := over4 B0 b1
    have T1 := T0.below (Nat.le_refl _) b1
    clear B0 b1 T0
    go_wp2_with fail
    refine (R2.out _ T1).mono ?_
    rintro e w2 ⟨rfl, b2⟩
    have B2 := over4 B1 b2
    have T2 := T1.below (Nat.le_refl _) b2
    clear B1 b2 T1
    go_wp2_with fail
    refine (awake_any _ T2).mono ?_
    rintro e w3 ⟨rfl, b3⟩
    have B3 := over4 B2 b3
    have T3 := T2.below (Nat.le_refl _) b3
    clear B2 b3 T2
    go_wp2_with fail
    go_ret
    exact ⟨rfl, B3⟩
  cases r3 : rightR c.data.toList
  · have R1 := rb a true r1 (by omega)
    have R2 := rb b true r2 (by omega)
    have R3 := rb c false r3 (by omega)
    clear r1 r2 r3
    go_enter Tryz.func6, Tryz.ntmps6
    have B0 : Below w.heap.size w w := Below.refl _ _
    have T0 := hT
    go_wp2_with fail
    refine (R1.out _ T0).mono ?_
    rintro e w1 ⟨rfl, b1⟩
    have B1 := over4 B0 b1
    have T1 := T0.below (Nat.le_refl _) b1
    clear B0 b1 T0
    go_wp2_with fail
    refine (R2.out _ T1).mono ?_
    rintro e w2 ⟨rfl, b2⟩
    have B2 := over4 B1 b2
    have T2 := T1.below (Nat.le_refl _) b2
    clear B1 b2 T1
    go_wp2_with fail
    refine (R3.out _ T2).mono ?_
    rintro e w3 ⟨rfl, b3⟩
    have B3 := over4 B2 b3
    have T3 := T2.below (Nat.le_refl _) b3
    clear B2 b3 T2
    go_wp2_with fail
    refine (awake_any _ T3).mono ?_
    rintro e w4 ⟨rfl, b4⟩
    have B4 := over4 B3 b4
    have T4 := T3.below (Nat.le_refl _) b4
    clear B3 b4 T3
    go_wp2_with fail
    go_ret
    exact ⟨rfl, B4⟩
  obtain ⟨r, _, rfl⟩ := rightR_str a r1
  obtain ⟨s, _, rfl⟩ := rightR_str b r2
  obtain ⟨t, _, rfl⟩ := rightR_str c r3
  exact ratioField_good r s t (by omega) (by omega) (by omega) w hT

end Go.Proofs.YthamlnolfagpiaaGreatDoor.D

