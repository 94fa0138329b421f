/-
  DERIVED. The walk of RatioOrders.
-/
import Derived.Test.YthamlnolfagpiaaGreatDoorRatioLaw
namespace Go.Proofs.YthamlnolfagpiaaGreatDoor.D
open Go.RowKit
set_option maxRecDepth 8000

theorem rbo (a : ByteArray) (q : Bool) (hq : rightR a.data.toList = q) (ha : a.size ≤ 100000) : Hid (∀ w : World, Tab w → Calls Tryz.prog 14 #[.string a] w fun e w' => e = .returned (.bool q) ∧ Below w.heap.size w w') := by
  intro w ht
  have := rRight_any a ha w ht
  rwa [hq] at this
set_option maxHeartbeats 2000000 in
theorem ratioOrders_good (r s : Rat) (hr : (rtx r).size ≤ 200) (hs : (rtx s).size ≤ 200) (w : World) (hT : Tab w) :
    Calls Tryz.prog 7 #[.string (rtx r), .string (rtx s)] w fun e w' => e = .returned (.bool true) ∧ Below w.heap.size w w' := by
  have zr := sz_of hr
  have zs := sz_of hs
  have R1 := rbo (rtx r) true (rightR_rtx (sz_mono zr (by omega))) (by omega)
  have R2 := rbo (rtx s) true (rightR_rtx (sz_mono zs (by omega))) (by omega)
  obtain ⟨D, hD⟩ : ∃ v, r - s = v := ⟨_, rfl⟩
  have zD : Sz 401 D := by rw [← hD]; exact sz_sub zr zs
  obtain ⟨lo, hlo⟩ : ∃ v, flo r = v := ⟨_, rfl⟩
  obtain ⟨hi, hhi⟩ : ∃ v, cei r = v := ⟨_, rfl⟩
  obtain ⟨c, hc⟩ : ∃ v, cmpR r s = v := ⟨_, rfl⟩
  obtain ⟨c1, hc1⟩ : ∃ v, cmpR ((lo : Int) : Rat) r = v := ⟨_, rfl⟩
  obtain ⟨c2, hc2⟩ : ∃ v, cmpR ((hi : Int) : Rat) r = v := ⟨_, rfl⟩
  have k1 : c1 ≤ 0 := by rw [← hc1, ← hlo]; exact cmpR_flo r
  have k2 : 0 ≤ c2 := by rw [← hc2, ← hhi]; exact cmpR_cei r
  have zlo : Sz 200 ((lo : Int) : Rat) := by rw [← hlo]; exact sz_int (nd_flo zr) (by omega)
  have zhi : Sz 200 ((hi : Int) : Rat) := by rw [← hhi]; exact sz_int (nd_cei zr) (by omega)
  have S1 := Lib.hid (rSub_r r s D hD (sz_mono zr (by omega)) (sz_mono zs (by omega)))
  have S2 := Lib.hid (rFloor_r r lo hlo (sz_mono zr (by omega)))
  have S3 := Lib.hid (rCeil_r r hi hhi (sz_mono zr (by omega)))
  have S4 := Lib.hid (rCompare_r r s c hc (sz_mono zr (by omega)) (sz_mono zs (by omega)))
  have S5 := Lib.hid (rSign_r D c (by rw [← hD, ← cmpR_sub]; exact hc) (sz_mono zD (by omega)))
  have S6 := Lib.hid (rCompare_r s r (-c) (by rw [cmpR_opp, hc]) (sz_mono zs (by omega)) (sz_mono zr (by omega)))
  have S7 : Hid (∀ w : World, Tab w → Calls Tryz.prog 20 #[.string (inum lo), .string (rtx r)] w fun e w' => e = .returned (.int .i64 c1) ∧ Below w.heap.size w w') := by
    have := rCompare_r ((lo : Int) : Rat) r c1 hc1 (sz_mono zlo (by omega)) (sz_mono zr (by omega))
    rwa [rtx_int] at this
  have S8 : Hid (∀ w : World, Tab w → Calls Tryz.prog 20 #[.string (inum hi), .string (rtx r)] w fun e w' => e = .returned (.int .i64 c2) ∧ Below w.heap.size w w') := by
    have := rCompare_r ((hi : Int) : Rat) r c2 hc2 (sz_mono zhi (by omega)) (sz_mono zr (by omega))
    rwa [rtx_int] at this
  obtain ⟨n, hn⟩ : ∃ v, hi - lo = v := ⟨_, rfl⟩
  have S9 : Hid (∀ w : World, Tab w → Calls Tryz.prog 26 #[.string (inum hi), .string (inum lo)] w fun e w' => e = .returned (.tuple #[.string (inum n), .int .i64 0]) ∧ Below w.heap.size w w') := by
    have := rSub_r ((hi : Int) : Rat) ((lo : Int) : Rat) ((n : Int) : Rat) (by rw [← hn, Rat.intCast_sub]) (sz_mono zhi (by omega)) (sz_mono zlo (by omega))
    rwa [rtx_int, rtx_int, rtx_int] at this
  have hfc := flo_cei r
  rw [hlo, hhi] at hfc
  have eLH := eq_inum lo hi
  have b1 : -1 ≤ c ∧ c ≤ 1 := by rw [← hc]; unfold cmpR crs sgnI; split; omega; split <;> omega
  rcases hfc with ⟨h1, h2⟩ | ⟨h1, h2⟩
  · have eR : ((inum lo).toList == (rtx r).toList) = true := by rw [h2, rtx_int]; exact beq_self_eq_true _
    have eN : ((inum n).toList == [48]) = true := by rw [zero_eqI]; exact decide_eq_true (by omega)
    rw [decide_eq_true h1.symm] at eLH
    clear hn h1 h2 hD hlo hhi hc hc1 hc2 zr zs zD zlo zhi
    go_enter Tryz.func7, Tryz.ntmps7
    have B0 : Below w.heap.size w w := Below.refl _ _
    have T0 := hT
    go_wp2_with fail
    refine (R1.out _ T0).mono ?_
    rintro e w1 ⟨rfl, b1⟩
    have B1 := over4 B0 b1
    have T1 := T0.below (Nat.le_refl _) b1
    clear B0 b1 T0
    go_wp2_with fail
    refine (R2.out _ T1).mono ?_
    rintro e w2 ⟨rfl, b2⟩
    have B2 := over4 B1 b2
    have T2 := T1.below (Nat.le_refl _) b2
    clear B1 b2 T1
    go_wp2_with fail
    refine (S1.out _ T2).mono ?_
    rintro e w3 ⟨rfl, b3⟩
    have B3 := over4 B2 b3
    have T3 := T2.below (Nat.le_refl _) b3
    clear B2 b3 T2
    go_wp2_with fail
    refine (S2.out _ T3).mono ?_
    rintro e w4 ⟨rfl, b4⟩
    have B4 := over4 B3 b4
    have T4 := T3.below (Nat.le_refl _) b4
    clear B3 b4 T3
    go_wp2_with fail
    refine (S3.out _ T4).mono ?_
    rintro e w5 ⟨rfl, b5⟩
    have B5 := over4 B4 b5
    have T5 := T4.below (Nat.le_refl _) b5
    clear B4 b5 T4
    go_wp2_with fail
    refine (S4.out _ T5).mono ?_
    rintro e w6 ⟨rfl, b6⟩
    have B6 := over4 B5 b6
    have T6 := T5.below (Nat.le_refl _) b6
    clear B5 b6 T5
    go_wp2_with fail
    refine (S5.out _ T6).mono ?_
    rintro e w7 ⟨rfl, b7⟩
    have B7 := over4 B6 b7
    have T7 := T6.below (Nat.le_refl _) b7
    clear B6 b7 T6
    go_wp2_with fail
    refine (S6.out _ T7).mono ?_
    rintro e w8 ⟨rfl, b8⟩
    have B8 := over4 B7 b8
    have T8 := T7.below (Nat.le_refl _) b8
    clear B7 b8 T7
    go_wp2_with fail
    refine (S5.out _ T8).mono ?_
    rintro e w9 ⟨rfl, b9⟩
    have B9 := over4 B8 b9
    have T9 := T8.below (Nat.le_refl _) b9
    clear B8 b9 T8
    go_wp2_with fail
    refine (S7.out _ T9).mono ?_
    rintro e w10 ⟨rfl, b10⟩
    have B10 := over4 B9 b10
    have T10 := T9.below (Nat.le_refl _) b10
    clear B9 b10 T9
    go_wp2_with fail
    refine (S8.out _ T10).mono ?_
    rintro e w11 ⟨rfl, b11⟩
    have B11 := over4 B10 b11
    have T11 := T10.below (Nat.le_refl _) b11
    clear B10 b11 T10
    go_wp2_with fail
    refine (S9.out _ T11).mono ?_
    rintro e w12 ⟨rfl, b12⟩
    have B12 := over4 B11 b12
    have T12 := T11.below (Nat.le_refl _) b12
    clear B11 b12 T11
    go_wp2_with fail
    refine (awake_any _ T12).mono ?_
    rintro e w13 ⟨rfl, b13⟩
    have B13 := over4 B12 b13
    have T13 := T12.below (Nat.le_refl _) b13
    clear B12 b13 T12
    go_wp2_with fail
    go_ret
    exact ⟨rfl, B13⟩
  · have eN : ((inum n).toList == [49]) = true := by
      rw [show n = ((1 : Nat) : Int) by omega, inum_nat, one_eq]; rfl
    rw [decide_eq_false (fun h => h2 h.symm)] at eLH
    clear hn h1 h2 hD hlo hhi hc hc1 hc2 zr zs zD zlo zhi
    go_enter Tryz.func7, Tryz.ntmps7
    have B0 : Below w.heap.size w w := Below.refl _ _
    have T0 := hT
    go_wp2_with fail
    refine (R1.out _ T0).mono ?_
    rintro e w1 ⟨rfl, b1⟩
    have B1 := over4 B0 b1
    have T1 := T0.below (Nat.le_refl _) b1
    clear B0 b1 T0
    go_wp2_with fail
    refine (R2.out _ T1).mono ?_
    rintro e w2 ⟨rfl, b2⟩
    have B2 := over4 B1 b2
    have T2 := T1.below (Nat.le_refl _) b2
    clear B1 b2 T1
    go_wp2_with fail
    refine (S1.out _ T2).mono ?_
    rintro e w3 ⟨rfl, b3⟩
    have B3 := over4 B2 b3
    have T3 := T2.below (Nat.le_refl _) b3
    clear B2 b3 T2
    go_wp2_with fail
    refine (S2.out _ T3).mono ?_
    rintro e w4 ⟨rfl, b4⟩
    have B4 := over4 B3 b4
    have T4 := T3.below (Nat.le_refl _) b4
    clear B3 b4 T3
    go_wp2_with fail
    refine (S3.out _ T4).mono ?_
    rintro e w5 ⟨rfl, b5⟩
    have B5 := over4 B4 b5
    have T5 := T4.below (Nat.le_refl _) b5
    clear B4 b5 T4
    go_wp2_with fail
    refine (S4.out _ T5).mono ?_
    rintro e w6 ⟨rfl, b6⟩
    have B6 := over4 B5 b6
    have T6 := T5.below (Nat.le_refl _) b6
    clear B5 b6 T5
    go_wp2_with fail
    refine (S5.out _ T6).mono ?_
    rintro e w7 ⟨rfl, b7⟩
    have B7 := over4 B6 b7
    have T7 := T6.below (Nat.le_refl _) b7
    clear B6 b7 T6
    go_wp2_with fail
    refine (S6.out _ T7).mono ?_
    rintro e w8 ⟨rfl, b8⟩
    have B8 := over4 B7 b8
    have T8 := T7.below (Nat.le_refl _) b8
    clear B7 b8 T7
    go_wp2_with fail
    refine (S5.out _ T8).mono ?_
    rintro e w9 ⟨rfl, b9⟩
    have B9 := over4 B8 b9
    have T9 := T8.below (Nat.le_refl _) b9
    clear B8 b9 T8
    go_wp2_with fail
    refine (S7.out _ T9).mono ?_
    rintro e w10 ⟨rfl, b10⟩
    have B10 := over4 B9 b10
    have T10 := T9.below (Nat.le_refl _) b10
    clear B9 b10 T9
    go_wp2_with fail
    refine (S8.out _ T10).mono ?_
    rintro e w11 ⟨rfl, b11⟩
    have B11 := over4 B10 b11
    have T11 := T10.below (Nat.le_refl _) b11
    clear B10 b11 T10
    go_wp2_with fail
    refine (S9.out _ T11).mono ?_
    rintro e w12 ⟨rfl, b12⟩
    have B12 := over4 B11 b12
    have T12 := T11.below (Nat.le_refl _) b12
    clear B11 b12 T11
    go_wp2_with fail
    refine (awake_any _ T12).mono ?_
    rintro e w13 ⟨rfl, b13⟩
    have B13 := over4 B12 b13
    have T13 := T12.below (Nat.le_refl _) b13
    clear B12 b13 T12
    go_wp2_with fail
    go_ret
    exact ⟨rfl, B13⟩
set_option maxHeartbeats 1000000 in
theorem ratioOrders_walk (a b : ByteArray) (w : World) (hT : Tab w) :
    Calls Tryz.prog 7 #[.string a, .string b] w fun e w' => e = .returned (.bool true) ∧ Below w.heap.size w w' := by
  by_cases ha : 200 < a.size
  · go_enter Tryz.func7, Tryz.ntmps7
    have B0 : Below w.heap.size w w := Below.refl _ _
    have T0 := hT
    go_wp2_with fail
    refine (awake_any _ T0).mono ?_
    rintro e w1 ⟨rfl, b1⟩
    have B1 := over4 B0 b1
    have T1 := T0.below (Nat.le_refl _) b1
    clear B0 b1 T0
    go_wp2_with fail
    go_ret
    exact ⟨rfl, B1⟩
  by_cases hb : 200 < b.size
  · go_enter Tryz.func7, Tryz.ntmps7
    have B0 : Below w.heap.size w w := Below.refl _ _
    have T0 := hT
    go_wp2_with fail
    refine (awake_any _ T0).mono ?_
    rintro e w1 ⟨rfl, b1⟩
    have B1 := over4 B0 b1
    have T1 := T0.below (Nat.le_refl _) b1
    clear B0 b1 T0
    go_wp2_with fail
    go_ret
    exact ⟨rfl, B1⟩
  cases r1 : rightR a.data.toList
  · have R1 := rbo a false r1 (by omega)
    have C1 := Lib.hid (rCompare_bad a b (.inl r1) (by omega) (by omega))
    clear r1
    go_enter Tryz.func7, Tryz.ntmps7
    have B0 : Below w.heap.size w w := Below.refl _ _
    have T0 := hT
    go_wp2_with fail
    refine (R1.out _ T0).mono ?_
    rintro e w1 ⟨rfl, b1⟩
    have B1 := over4 B0 b1
    have T1 := T0.below (Nat.le_refl _) b1
    clear B0 b1 T0
    go_wp2_with fail
    refine (C1.out _ T1).mono ?_
    rintro e w2 ⟨rfl, b2⟩
    have B2 := over4 B1 b2
    have T2 := T1.below (Nat.le_refl _) b2
    clear B1 b2 T1
    go_wp2_with fail
    refine (awake_any _ T2).mono ?_
    rintro e w3 ⟨rfl, b3⟩
    have B3 := over4 B2 b3
    have T3 := T2.below (Nat.le_refl _) b3
    clear B2 b3 T2
    go_wp2_with fail
    go_ret
    exact ⟨rfl, B3⟩
  cases r2 : rightR b.data.toList
  · have R1 := rbo a true r1 (by omega)
    have R2 := rbo b false r2 (by omega)
    have C1 := Lib.hid (rCompare_bad a b (.inr r2) (by omega) (by omega))
    clear r1 r2
    go_enter Tryz.func7, Tryz.ntmps7
    have B0 : Below w.heap.size w w := Below.refl _ _
    have T0 := hT
    go_wp2_with fail
    refine (R1.out _ T0).mono ?_
    rintro e w1 ⟨rfl, b1⟩
    have B1 := over4 B0 b1
    have T1 := T0.below (Nat.le_refl _) b1
    clear B0 b1 T0
    go_wp2_with fail
    refine (R2.out _ T1).mono ?_
    rintro e w2 ⟨rfl, b2⟩
    have B2 := over4 B1 b2
    have T2 := T1.below (Nat.le_refl _) b2
    clear B1 b2 T1
    go_wp2_with fail
    refine (C1.out _ T2).mono ?_
    rintro e w3 ⟨rfl, b3⟩
    have B3 := over4 B2 b3
    have T3 := T2.below (Nat.le_refl _) b3
    clear B2 b3 T2
    go_wp2_with fail
    refine (awake_any _ T3).mono ?_
    rintro e w4 ⟨rfl, b4⟩
    have B4 := over4 B3 b4
    have T4 := T3.below (Nat.le_refl _) b4
    clear B3 b4 T3
    go_wp2_with fail
    go_ret
    exact ⟨rfl, B4⟩
  obtain ⟨r, _, rfl⟩ := rightR_str a r1
  obtain ⟨s, _, rfl⟩ := rightR_str b r2
  exact ratioOrders_good r s (by omega) (by omega) w hT

end Go.Proofs.YthamlnolfagpiaaGreatDoor.D

