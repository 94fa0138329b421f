/-
  DERIVED. The walk of RatioRights.
-/
import Derived.Test.YthamlnolfagpiaaGreatDoorRatioLaw
namespace Go.Proofs.YthamlnolfagpiaaGreatDoor.D
open Go.RowKit
set_option maxRecDepth 8000

set_option maxHeartbeats 1000000 in
theorem ratioRights_walk (a b : ByteArray) (w : World) (hT : Tab w) :
    Calls Tryz.prog 3 #[.string a, .string b] w fun e w' => e = .returned (.bool true) ∧ Below w.heap.size w w' := by
  by_cases hs : a.size ≤ 300 ∧ b.size ≤ 300
  · obtain ⟨ha, hb⟩ := hs
    have HS : Hid ((decide (a.size ≤ 300) && decide (b.size ≤ 300)) = true) := by show _ = _; rw [decide_eq_true ha, decide_eq_true hb]; rfl
    obtain ⟨p, q, e1, h1⟩ := two_parts a ha
    obtain ⟨qr, h2⟩ := two_right a ha
    obtain ⟨s1, e2, h3⟩ := two_floor a ha
    obtain ⟨s2, e3, h4⟩ := two_ceil a ha
    obtain ⟨c1, h5⟩ := two_compare a b ha hb
    obtain ⟨c2, h6⟩ := two_sign a ha
    have H1 := Lib.hid h1
    have H2 := Lib.hid h2
    have H3 := Lib.hid h3
    have H4 := Lib.hid h4
    have H5 := Lib.hid h5
    have H6 := Lib.hid h6
    clear h1 h2 h3 h4 h5 h6
    clear ha hb
    go_enter Tryz.func3, Tryz.ntmps3
    have B0 : Below w.heap.size w w := Below.refl _ _
    have T0 := hT
    go_wp2_with fail
    refine (short_e a b true HS _).mono ?_
    rintro e w1 ⟨rfl, b1⟩
    have B1 := over4 B0 b1
    have T1 := T0.below (Nat.le_refl _) b1
    clear B0 b1 T0
    go_wp2_with fail
    refine (H1.out.1 _ T1).mono ?_
    rintro e w2 ⟨rfl, b2⟩
    have B2 := over4 B1 b2
    have T2 := T1.below (Nat.le_refl _) b2
    clear B1 b2 T1
    go_wp2_with fail
    refine (H1.out.2 _).mono ?_
    rintro e w3 ⟨rfl, b3⟩
    have B3 := over4 B2 b3
    have T3 := T2.below (Nat.le_refl _) b3
    clear B2 b3 T2
    go_wp2_with fail
    refine (H2.out.1 _ T3).mono ?_
    rintro e w4 ⟨rfl, b4⟩
    have B4 := over4 B3 b4
    have T4 := T3.below (Nat.le_refl _) b4
    clear B3 b4 T3
    go_wp2_with fail
    refine (H2.out.2 _).mono ?_
    rintro e w5 ⟨rfl, b5⟩
    have B5 := over4 B4 b5
    have T5 := T4.below (Nat.le_refl _) b5
    clear B4 b5 T4
    go_wp2_with fail
    refine (H3.out.1 _ T5).mono ?_
    rintro e w6 ⟨rfl, b6⟩
    have B6 := over4 B5 b6
    have T6 := T5.below (Nat.le_refl _) b6
    clear B5 b6 T5
    go_wp2_with fail
    refine (H3.out.2 _).mono ?_
    rintro e w7 ⟨rfl, b7⟩
    have B7 := over4 B6 b7
    have T7 := T6.below (Nat.le_refl _) b7
    clear B6 b7 T6
    go_wp2_with fail
    refine (H4.out.1 _ T7).mono ?_
    rintro e w8 ⟨rfl, b8⟩
    have B8 := over4 B7 b8
    have T8 := T7.below (Nat.le_refl _) b8
    clear B7 b8 T7
    go_wp2_with fail
    refine (H4.out.2 _).mono ?_
    rintro e w9 ⟨rfl, b9⟩
    have B9 := over4 B8 b9
    have T9 := T8.below (Nat.le_refl _) b9
    clear B8 b9 T8
    go_wp2_with fail
    refine (H5.out.1 _ T9).mono ?_
    rintro e w10 ⟨rfl, b10⟩
    have B10 := over4 B9 b10
    have T10 := T9.below (Nat.le_refl _) b10
    clear B9 b10 T9
    go_wp2_with fail
    refine (H5.out.2 _).mono ?_
    rintro e w11 ⟨rfl, b11⟩
    have B11 := over4 B10 b11
    have T11 := T10.below (Nat.le_refl _) b11
    clear B10 b11 T10
    go_wp2_with fail
    refine (H6.out.1 _ T11).mono ?_
    rintro e w12 ⟨rfl, b12⟩
    have B12 := over4 B11 b12
    have T12 := T11.below (Nat.le_refl _) b12
    clear B11 b12 T11
    go_wp2_with fail
    refine (H6.out.2 _).mono ?_
    rintro e w13 ⟨rfl, b13⟩
    have B13 := over4 B12 b13
    have T13 := T12.below (Nat.le_refl _) b13
    clear B12 b13 T12
    go_wp2_with fail
    refine (awake_any _ T13).mono ?_
    rintro e w14 ⟨rfl, b14⟩
    have B14 := over4 B13 b14
    have T14 := T13.below (Nat.le_refl _) b14
    clear B13 b14 T13
    go_wp2_with fail
    go_ret
    exact ⟨rfl, B14⟩
  · have HS : Hid ((decide (a.size ≤ 300) && decide (b.size ≤ 300)) = false) := by
      show _ = _
      by_cases h1 : a.size ≤ 300
      · rw [decide_eq_false (p := b.size ≤ 300) (fun h2 => hs ⟨h1, h2⟩), Bool.and_false]
      · rw [decide_eq_false h1]; rfl
    clear hs
    go_enter Tryz.func3, Tryz.ntmps3
    have B0 : Below w.heap.size w w := Below.refl _ _
    have T0 := hT
    go_wp2_with fail
    refine (short_e a b false HS _).mono ?_
    rintro e w1 ⟨rfl, b1⟩
    have B1 := over4 B0 b1
    have T1 := T0.below (Nat.le_refl _) b1
    clear B0 b1 T0
    go_wp2_with fail
    refine (awake_any _ T1).mono ?_
    rintro e w2 ⟨rfl, b2⟩
    have B2 := over4 B1 b2
    have T2 := T1.below (Nat.le_refl _) b2
    clear B1 b2 T1
    go_wp2_with fail
    go_ret
    exact ⟨rfl, B2⟩

end Go.Proofs.YthamlnolfagpiaaGreatDoor.D

