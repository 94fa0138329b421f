/-
  DERIVED. The walk of WholeForms.
-/
import Derived.Test.YtifcmnjaplmeiaaDoorWholeLaw
namespace Go.Proofs.YtifcmnjaplmeiaaDoor.D
open Go.RowKit

set_option maxRecDepth 100000 in
set_option maxHeartbeats 2000000 in
theorem wholeForms_walk (a b : ByteArray) (n : Int) (h1 : -9223372036854775808 ≤ n) (h2 : n ≤ 9223372036854775807) (w : World) (hT : Tab w) :
    Calls Tryd.prog 3 #[.string a, .string b, .int .i64 n] w fun e w' => e = .returned (.bool true) ∧ Below w.heap.size w w' := by
  by_cases ha : 200 < a.size
  · go_enter Tryd.func3, Tryd.ntmps3
    have B0 : Below w.heap.size w w := Below.refl _ _
    have T0 := hT
    go_wp2_with fail
    refine (examples3_any _ T0).mono ?_
    rintro e w1 ⟨rfl, b1⟩
    have B1 := B0.trans (b1.mono B0.size)
    have T1 := T0.below (Nat.le_refl _) b1
    clear B0 b1 T0
    go_wp2_with fail
    go_ret
    exact ⟨rfl, B1⟩
  by_cases hb : 200 < b.size
  · go_enter Tryd.func3, Tryd.ntmps3
    have B0 : Below w.heap.size w w := Below.refl _ _
    have T0 := hT
    go_wp2_with fail
    refine (examples3_any _ T0).mono ?_
    rintro e w1 ⟨rfl, b1⟩
    have B1 := B0.trans (b1.mono B0.size)
    have T1 := T0.below (Nat.le_refl _) b1
    clear B0 b1 T0
    go_wp2_with fail
    go_ret
    exact ⟨rfl, B1⟩
  have sa : a.size ≤ 200 := by omega
  have sb : b.size ≤ 200 := by omega
  clear ha hb
  by_cases ra : rightI a.data.toList = true
  · obtain ⟨x, rfl⟩ := rightI_str a ra
    clear ra
    have na := nd_sz sa
    by_cases rb : rightI b.data.toList = true
    · obtain ⟨y, rfl⟩ := rightI_str b rb
      clear rb
      have nb := nd_sz sb
      by_cases hs : nd x.natAbs ≤ 19
      · go_enter Tryd.func3, Tryd.ntmps3
        have B0 : Below w.heap.size w w := Below.refl _ _
        have T0 := hT
        go_wp2_with fail
        refine (wInt_num x hs _ T0).mono ?_
        rintro e w1 ⟨rfl, b1⟩
        have B1 := B0.trans (b1.mono B0.size)
        have T1 := T0.below (Nat.le_refl _) b1
        clear B0 b1 T0
        go_wp2_with fail
        refine (refInt3_num x (by rw [dg_inum]; exact hs) _ (by omega)).mono ?_
        rintro e w2 ⟨rfl, b2⟩
        have B2 := B1.trans (b2.mono B1.size)
        have T2 := T1.below (Nat.le_refl _) b2
        clear B1 b2 T1
        go_wp2_with fail
        refine (wRight_e _ true (right_inum x) (by omega) _ T2).mono ?_
        rintro e w3 ⟨rfl, b3⟩
        have B3 := B2.trans (b3.mono B2.size)
        have T3 := T2.below (Nat.le_refl _) b3
        clear B2 b3 T2
        go_wp2_with fail
        refine (refRight3_e _ true (right_inum x) _ (by omega)).mono ?_
        rintro e w' ⟨rfl, rfl⟩
        go_wp2_with fail
        refine (wOf_any n h1 h2 _ T3).mono ?_
        rintro e w4 ⟨rfl, b4⟩
        have B4 := B3.trans (b4.mono B3.size)
        have T4 := T3.below (Nat.le_refl _) b4
        clear B3 b4 T3
        go_wp2_with fail
        refine (refOf3_any n h1 h2 _).mono ?_
        rintro e w5 ⟨rfl, b5⟩
        have B5 := B4.trans (b5.mono B4.size)
        have T5 := T4.below (Nat.le_refl _) b5
        clear B4 b5 T4
        go_wp2_with fail
        refine (wSign_num x (by omega) _ T5).mono ?_
        rintro e w6 ⟨rfl, b6⟩
        have B6 := B5.trans (b6.mono B5.size)
        have T6 := T5.below (Nat.le_refl _) b6
        clear B5 b6 T5
        go_wp2_with fail
        refine (refSign3_num x _ (by omega)).mono ?_
        rintro e w' ⟨rfl, rfl⟩
        go_wp2_with fail
        refine (wCompare_num x y (by omega) (by omega) _ T6).mono ?_
        rintro e w7 ⟨rfl, b7⟩
        have B7 := B6.trans (b7.mono B6.size)
        have T7 := T6.below (Nat.le_refl _) b7
        clear B6 b7 T6
        go_wp2_with fail
        refine (refCompare3_num x y _ (by omega) (by omega)).mono ?_
        rintro e w8 ⟨rfl, b8⟩
        have B8 := B7.trans (b8.mono B7.size)
        have T8 := T7.below (Nat.le_refl _) b8
        clear B7 b8 T7
        go_wp2_with fail
        refine (examples3_any _ T8).mono ?_
        rintro e w9 ⟨rfl, b9⟩
        have B9 := B8.trans (b9.mono B8.size)
        have T9 := T8.below (Nat.le_refl _) b9
        clear B8 b9 T8
        go_wp2_with fail
        go_ret
        exact ⟨rfl, B9⟩
      · have hs : 19 < nd x.natAbs := by omega
        go_enter Tryd.func3, Tryd.ntmps3
        have B0 : Below w.heap.size w w := Below.refl _ _
        have T0 := hT
        go_wp2_with fail
        refine (wInt_over x hs (by omega) _ T0).mono ?_
        rintro e w1 ⟨rfl, b1⟩
        have B1 := B0.trans (b1.mono B0.size)
        have T1 := T0.below (Nat.le_refl _) b1
        clear B0 b1 T0
        go_wp2_with fail
        refine (refInt3_over x (by rw [dg_inum]; exact hs) _ (by omega)).mono ?_
        rintro e w' ⟨rfl, rfl⟩
        go_wp2_with fail
        refine (wRight_e _ true (right_inum x) (by omega) _ T1).mono ?_
        rintro e w2 ⟨rfl, b2⟩
        have B2 := B1.trans (b2.mono B1.size)
        have T2 := T1.below (Nat.le_refl _) b2
        clear B1 b2 T1
        go_wp2_with fail
        refine (refRight3_e _ true (right_inum x) _ (by omega)).mono ?_
        rintro e w' ⟨rfl, rfl⟩
        go_wp2_with fail
        refine (wOf_any n h1 h2 _ T2).mono ?_
        rintro e w3 ⟨rfl, b3⟩
        have B3 := B2.trans (b3.mono B2.size)
        have T3 := T2.below (Nat.le_refl _) b3
        clear B2 b3 T2
        go_wp2_with fail
        refine (refOf3_any n h1 h2 _).mono ?_
        rintro e w4 ⟨rfl, b4⟩
        have B4 := B3.trans (b4.mono B3.size)
        have T4 := T3.below (Nat.le_refl _) b4
        clear B3 b4 T3
        go_wp2_with fail
        refine (wSign_num x (by omega) _ T4).mono ?_
        rintro e w5 ⟨rfl, b5⟩
        have B5 := B4.trans (b5.mono B4.size)
        have T5 := T4.below (Nat.le_refl _) b5
        clear B4 b5 T4
        go_wp2_with fail
        refine (refSign3_num x _ (by omega)).mono ?_
        rintro e w' ⟨rfl, rfl⟩
        go_wp2_with fail
        refine (wCompare_num x y (by omega) (by omega) _ T5).mono ?_
        rintro e w6 ⟨rfl, b6⟩
        have B6 := B5.trans (b6.mono B5.size)
        have T6 := T5.below (Nat.le_refl _) b6
        clear B5 b6 T5
        go_wp2_with fail
        refine (refCompare3_num x y _ (by omega) (by omega)).mono ?_
        rintro e w7 ⟨rfl, b7⟩
        have B7 := B6.trans (b7.mono B6.size)
        have T7 := T6.below (Nat.le_refl _) b7
        clear B6 b7 T6
        go_wp2_with fail
        refine (examples3_any _ T7).mono ?_
        rintro e w8 ⟨rfl, b8⟩
        have B8 := B7.trans (b8.mono B7.size)
        have T8 := T7.below (Nat.le_refl _) b8
        clear B7 b8 T7
        go_wp2_with fail
        go_ret
        exact ⟨rfl, B8⟩
    · have Hb : Hid (rightI b.data.toList = false) := Lib.hid (by simpa using rb)
      clear rb
      by_cases hs : nd x.natAbs ≤ 19
      · go_enter Tryd.func3, Tryd.ntmps3
        have B0 : Below w.heap.size w w := Below.refl _ _
        have T0 := hT
        go_wp2_with fail
        refine (wInt_num x hs _ T0).mono ?_
        rintro e w1 ⟨rfl, b1⟩
        have B1 := B0.trans (b1.mono B0.size)
        have T1 := T0.below (Nat.le_refl _) b1
        clear B0 b1 T0
        go_wp2_with fail
        refine (refInt3_num x (by rw [dg_inum]; exact hs) _ (by omega)).mono ?_
        rintro e w2 ⟨rfl, b2⟩
        have B2 := B1.trans (b2.mono B1.size)
        have T2 := T1.below (Nat.le_refl _) b2
        clear B1 b2 T1
        go_wp2_with fail
        refine (wRight_e _ true (right_inum x) (by omega) _ T2).mono ?_
        rintro e w3 ⟨rfl, b3⟩
        have B3 := B2.trans (b3.mono B2.size)
        have T3 := T2.below (Nat.le_refl _) b3
        clear B2 b3 T2
        go_wp2_with fail
        refine (refRight3_e _ true (right_inum x) _ (by omega)).mono ?_
        rintro e w' ⟨rfl, rfl⟩
        go_wp2_with fail
        refine (wOf_any n h1 h2 _ T3).mono ?_
        rintro e w4 ⟨rfl, b4⟩
        have B4 := B3.trans (b4.mono B3.size)
        have T4 := T3.below (Nat.le_refl _) b4
        clear B3 b4 T3
        go_wp2_with fail
        refine (refOf3_any n h1 h2 _).mono ?_
        rintro e w5 ⟨rfl, b5⟩
        have B5 := B4.trans (b5.mono B4.size)
        have T5 := T4.below (Nat.le_refl _) b5
        clear B4 b5 T4
        go_wp2_with fail
        refine (wSign_num x (by omega) _ T5).mono ?_
        rintro e w6 ⟨rfl, b6⟩
        have B6 := B5.trans (b6.mono B5.size)
        have T6 := T5.below (Nat.le_refl _) b6
        clear B5 b6 T5
        go_wp2_with fail
        refine (refSign3_num x _ (by omega)).mono ?_
        rintro e w' ⟨rfl, rfl⟩
        go_wp2_with fail
        refine (wCompare_bad _ b (.inr Hb.out) (by omega) (by omega) _ T6).mono ?_
        rintro e w7 ⟨rfl, b7⟩
        have B7 := B6.trans (b7.mono B6.size)
        have T7 := T6.below (Nat.le_refl _) b7
        clear B6 b7 T6
        go_wp2_with fail
        refine (refCompare3_bad _ b (.inr Hb.out) _ (by omega) (by omega)).mono ?_
        rintro e w' ⟨rfl, rfl⟩
        go_wp2_with fail
        refine (examples3_any _ T7).mono ?_
        rintro e w8 ⟨rfl, b8⟩
        have B8 := B7.trans (b8.mono B7.size)
        have T8 := T7.below (Nat.le_refl _) b8
        clear B7 b8 T7
        go_wp2_with fail
        go_ret
        exact ⟨rfl, B8⟩
      · have hs : 19 < nd x.natAbs := by omega
        go_enter Tryd.func3, Tryd.ntmps3
        have B0 : Below w.heap.size w w := Below.refl _ _
        have T0 := hT
        go_wp2_with fail
        refine (wInt_over x hs (by omega) _ T0).mono ?_
        rintro e w1 ⟨rfl, b1⟩
        have B1 := B0.trans (b1.mono B0.size)
        have T1 := T0.below (Nat.le_refl _) b1
        clear B0 b1 T0
        go_wp2_with fail
        refine (refInt3_over x (by rw [dg_inum]; exact hs) _ (by omega)).mono ?_
        rintro e w' ⟨rfl, rfl⟩
        go_wp2_with fail
        refine (wRight_e _ true (right_inum x) (by omega) _ T1).mono ?_
        rintro e w2 ⟨rfl, b2⟩
        have B2 := B1.trans (b2.mono B1.size)
        have T2 := T1.below (Nat.le_refl _) b2
        clear B1 b2 T1
        go_wp2_with fail
        refine (refRight3_e _ true (right_inum x) _ (by omega)).mono ?_
        rintro e w' ⟨rfl, rfl⟩
        go_wp2_with fail
        refine (wOf_any n h1 h2 _ T2).mono ?_
        rintro e w3 ⟨rfl, b3⟩
        have B3 := B2.trans (b3.mono B2.size)
        have T3 := T2.below (Nat.le_refl _) b3
        clear B2 b3 T2
        go_wp2_with fail
        refine (refOf3_any n h1 h2 _).mono ?_
        rintro e w4 ⟨rfl, b4⟩
        have B4 := B3.trans (b4.mono B3.size)
        have T4 := T3.below (Nat.le_refl _) b4
        clear B3 b4 T3
        go_wp2_with fail
        refine (wSign_num x (by omega) _ T4).mono ?_
        rintro e w5 ⟨rfl, b5⟩
        have B5 := B4.trans (b5.mono B4.size)
        have T5 := T4.below (Nat.le_refl _) b5
        clear B4 b5 T4
        go_wp2_with fail
        refine (refSign3_num x _ (by omega)).mono ?_
        rintro e w' ⟨rfl, rfl⟩
        go_wp2_with fail
        refine (wCompare_bad _ b (.inr Hb.out) (by omega) (by omega) _ T5).mono ?_
        rintro e w6 ⟨rfl, b6⟩
        have B6 := B5.trans (b6.mono B5.size)
        have T6 := T5.below (Nat.le_refl _) b6
        clear B5 b6 T5
        go_wp2_with fail
        refine (refCompare3_bad _ b (.inr Hb.out) _ (by omega) (by omega)).mono ?_
        rintro e w' ⟨rfl, rfl⟩
        go_wp2_with fail
        refine (examples3_any _ T6).mono ?_
        rintro e w7 ⟨rfl, b7⟩
        have B7 := B6.trans (b7.mono B6.size)
        have T7 := T6.below (Nat.le_refl _) b7
        clear B6 b7 T6
        go_wp2_with fail
        go_ret
        exact ⟨rfl, B7⟩
  · have Ha : Hid (rightI a.data.toList = false) := Lib.hid (by simpa using ra)
    clear ra
    go_enter Tryd.func3, Tryd.ntmps3
    have B0 : Below w.heap.size w w := Below.refl _ _
    have T0 := hT
    go_wp2_with fail
    refine (wInt_bad a Ha.out (by omega) _ T0).mono ?_
    rintro e w1 ⟨rfl, b1⟩
    have B1 := B0.trans (b1.mono B0.size)
    have T1 := T0.below (Nat.le_refl _) b1
    clear B0 b1 T0
    go_wp2_with fail
    refine (refInt3_bad a Ha.out _ (by omega)).mono ?_
    rintro e w' ⟨rfl, rfl⟩
    go_wp2_with fail
    refine (wRight_e a false Ha (by omega) _ T1).mono ?_
    rintro e w2 ⟨rfl, b2⟩
    have B2 := B1.trans (b2.mono B1.size)
    have T2 := T1.below (Nat.le_refl _) b2
    clear B1 b2 T1
    go_wp2_with fail
    refine (refRight3_e a false Ha _ (by omega)).mono ?_
    rintro e w' ⟨rfl, rfl⟩
    go_wp2_with fail
    refine (wOf_any n h1 h2 _ T2).mono ?_
    rintro e w3 ⟨rfl, b3⟩
    have B3 := B2.trans (b3.mono B2.size)
    have T3 := T2.below (Nat.le_refl _) b3
    clear B2 b3 T2
    go_wp2_with fail
    refine (refOf3_any n h1 h2 _).mono ?_
    rintro e w4 ⟨rfl, b4⟩
    have B4 := B3.trans (b4.mono B3.size)
    have T4 := T3.below (Nat.le_refl _) b4
    clear B3 b4 T3
    go_wp2_with fail
    refine (wSign_bad a Ha.out (by omega) _ T4).mono ?_
    rintro e w5 ⟨rfl, b5⟩
    have B5 := B4.trans (b5.mono B4.size)
    have T5 := T4.below (Nat.le_refl _) b5
    clear B4 b5 T4
    go_wp2_with fail
    refine (refSign3_bad a Ha _ (by omega)).mono ?_
    rintro e w' ⟨rfl, rfl⟩
    go_wp2_with fail
    refine (wCompare_bad a b (.inl Ha.out) (by omega) (by omega) _ T5).mono ?_
    rintro e w6 ⟨rfl, b6⟩
    have B6 := B5.trans (b6.mono B5.size)
    have T6 := T5.below (Nat.le_refl _) b6
    clear B5 b6 T5
    go_wp2_with fail
    refine (refCompare3_bad a b (.inl Ha.out) _ (by omega) (by omega)).mono ?_
    rintro e w' ⟨rfl, rfl⟩
    go_wp2_with fail
    refine (examples3_any _ T6).mono ?_
    rintro e w7 ⟨rfl, b7⟩
    have B7 := B6.trans (b7.mono B6.size)
    have T7 := T6.below (Nat.le_refl _) b7
    clear B6 b7 T6
    go_wp2_with fail
    go_ret
    exact ⟨rfl, B7⟩

end Go.Proofs.YtifcmnjaplmeiaaDoor.D
