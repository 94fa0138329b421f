/-
  DERIVED. The walk of WholeSums.
-/
import Derived.Test.YtifcmnjaplmeiaaDoorWholeLaw
namespace Go.Proofs.YtifcmnjaplmeiaaDoor.D
open Go.RowKit

set_option maxRecDepth 100000 in
set_option maxHeartbeats 2000000 in
theorem wholeSums_walk (a b : ByteArray) (w : World) (hT : Tab w) :
    Calls Tryd.prog 4 #[.string a, .string b] w fun e w' => e = .returned (.bool true) ∧ Below w.heap.size w w' := by
  by_cases ha : 200 < a.size
  · go_enter Tryd.func4, Tryd.ntmps4
    have B0 : Below w.heap.size w w := Below.refl _ _
    have T0 := hT
    go_wp2_with fail
    refine (examples3_any _ T0).mono ?_
    rintro e w1 ⟨rfl, b1⟩
    have B1 := B0.trans (b1.mono B0.size)
    have T1 := T0.below (Nat.le_refl _) b1
    clear B0 b1 T0
    go_wp2_with fail
    go_ret
    exact ⟨rfl, B1⟩
  by_cases hb : 200 < b.size
  · go_enter Tryd.func4, Tryd.ntmps4
    have B0 : Below w.heap.size w w := Below.refl _ _
    have T0 := hT
    go_wp2_with fail
    refine (examples3_any _ T0).mono ?_
    rintro e w1 ⟨rfl, b1⟩
    have B1 := B0.trans (b1.mono B0.size)
    have T1 := T0.below (Nat.le_refl _) b1
    clear B0 b1 T0
    go_wp2_with fail
    go_ret
    exact ⟨rfl, B1⟩
  have sa : a.size ≤ 200 := by omega
  have sb : b.size ≤ 200 := by omega
  clear ha hb
  by_cases ra : rightI a.data.toList = true
  · obtain ⟨x, rfl⟩ := rightI_str a ra
    clear ra
    have na := nd_sz sa
    by_cases rb : rightI b.data.toList = true
    · obtain ⟨y, rfl⟩ := rightI_str b rb
      clear rb
      have nb := nd_sz sb
      obtain ⟨s, hs⟩ : ∃ s, x + y = s := ⟨_, rfl⟩
      obtain ⟨d, hd⟩ : ∃ d, x - y = d := ⟨_, rfl⟩
      have ns := nda_add hs na nb
      have nd' := nda_sub hd na nb
      have ss := szk ns
      have sd := szk nd'
      have HS := Lib.hid hs
      have HD := Lib.hid hd
      clear hs hd
      go_enter Tryd.func4, Tryd.ntmps4
      have B0 : Below w.heap.size w w := Below.refl _ _
      have T0 := hT
      go_wp2_with fail
      refine (wAdd_num x y s HS (by omega) (by omega) (by omega) _ T0).mono ?_
      rintro e w1 ⟨rfl, b1⟩
      have B1 := B0.trans (b1.mono B0.size)
      have T1 := T0.below (Nat.le_refl _) b1
      clear B0 b1 T0
      go_wp2_with fail
      refine (refAdd3_z x y s HS _ (by omega) (by omega) (by omega)).mono ?_
      rintro e w2 ⟨rfl, b2⟩
      have B2 := B1.trans (b2.mono B1.size)
      have T2 := T1.below (Nat.le_refl _) b2
      clear B1 b2 T1
      go_wp2_with fail
      refine (wSub_num x y d HD (by omega) (by omega) (by omega) _ T2).mono ?_
      rintro e w3 ⟨rfl, b3⟩
      have B3 := B2.trans (b3.mono B2.size)
      have T3 := T2.below (Nat.le_refl _) b3
      clear B2 b3 T2
      go_wp2_with fail
      refine (refSub3_z x y d HD _ (by omega) (by omega) (by omega)).mono ?_
      rintro e w4 ⟨rfl, b4⟩
      have B4 := B3.trans (b4.mono B3.size)
      have T4 := T3.below (Nat.le_refl _) b4
      clear B3 b4 T3
      go_wp2_with fail
      refine (wNeg_num x (by omega) _ T4).mono ?_
      rintro e w5 ⟨rfl, b5⟩
      have B5 := B4.trans (b5.mono B4.size)
      have T5 := T4.below (Nat.le_refl _) b5
      clear B4 b5 T4
      go_wp2_with fail
      refine (refNeg3_num x _ (by omega)).mono ?_
      rintro e w6 ⟨rfl, b6⟩
      have B6 := B5.trans (b6.mono B5.size)
      have T6 := T5.below (Nat.le_refl _) b6
      clear B5 b6 T5
      go_wp2_with fail
      refine (wAbs_num y (by omega) _ T6).mono ?_
      rintro e w7 ⟨rfl, b7⟩
      have B7 := B6.trans (b7.mono B6.size)
      have T7 := T6.below (Nat.le_refl _) b7
      clear B6 b7 T6
      go_wp2_with fail
      refine (refAbs3_num y _ (by omega)).mono ?_
      rintro e w8 ⟨rfl, b8⟩
      have B8 := B7.trans (b8.mono B7.size)
      have T8 := T7.below (Nat.le_refl _) b8
      clear B7 b8 T7
      go_wp2_with fail
      refine (examples3_any _ T8).mono ?_
      rintro e w9 ⟨rfl, b9⟩
      have B9 := B8.trans (b9.mono B8.size)
      have T9 := T8.below (Nat.le_refl _) b9
      clear B8 b9 T8
      go_wp2_with fail
      go_ret
      exact ⟨rfl, B9⟩
    · have Hb : Hid (rightI b.data.toList = false) := Lib.hid (by simpa using rb)
      clear rb
      go_enter Tryd.func4, Tryd.ntmps4
      have B0 : Below w.heap.size w w := Below.refl _ _
      have T0 := hT
      go_wp2_with fail
      refine (wAdd_bad _ _ (.inr Hb.out) (by omega) (by omega) _ T0).mono ?_
      rintro e w1 ⟨rfl, b1⟩
      have B1 := B0.trans (b1.mono B0.size)
      have T1 := T0.below (Nat.le_refl _) b1
      clear B0 b1 T0
      go_wp2_with fail
      refine (refAdd3_bad _ _ (.inr Hb.out) _ (by omega) (by omega)).mono ?_
      rintro e w' ⟨rfl, rfl⟩
      go_wp2_with fail
      refine (wSub_bad _ _ (.inr Hb.out) (by omega) (by omega) _ T1).mono ?_
      rintro e w2 ⟨rfl, b2⟩
      have B2 := B1.trans (b2.mono B1.size)
      have T2 := T1.below (Nat.le_refl _) b2
      clear B1 b2 T1
      go_wp2_with fail
      refine (refSub3_bad _ _ (.inr Hb.out) _ (by omega) (by omega)).mono ?_
      rintro e w' ⟨rfl, rfl⟩
      go_wp2_with fail
      refine (wNeg_num x (by omega) _ T2).mono ?_
      rintro e w3 ⟨rfl, b3⟩
      have B3 := B2.trans (b3.mono B2.size)
      have T3 := T2.below (Nat.le_refl _) b3
      clear B2 b3 T2
      go_wp2_with fail
      refine (refNeg3_num x _ (by omega)).mono ?_
      rintro e w4 ⟨rfl, b4⟩
      have B4 := B3.trans (b4.mono B3.size)
      have T4 := T3.below (Nat.le_refl _) b4
      clear B3 b4 T3
      go_wp2_with fail
      refine (wAbs_bad b Hb.out (by omega) _ T4).mono ?_
      rintro e w5 ⟨rfl, b5⟩
      have B5 := B4.trans (b5.mono B4.size)
      have T5 := T4.below (Nat.le_refl _) b5
      clear B4 b5 T4
      go_wp2_with fail
      refine (refAbs3_bad b Hb.out _ (by omega)).mono ?_
      rintro e w' ⟨rfl, rfl⟩
      go_wp2_with fail
      refine (examples3_any _ T5).mono ?_
      rintro e w6 ⟨rfl, b6⟩
      have B6 := B5.trans (b6.mono B5.size)
      have T6 := T5.below (Nat.le_refl _) b6
      clear B5 b6 T5
      go_wp2_with fail
      go_ret
      exact ⟨rfl, B6⟩
  · have Ha : Hid (rightI a.data.toList = false) := Lib.hid (by simpa using ra)
    clear ra
    by_cases rb : rightI b.data.toList = true
    · obtain ⟨y, rfl⟩ := rightI_str b rb
      clear rb
      have nb := nd_sz sb
      go_enter Tryd.func4, Tryd.ntmps4
      have B0 : Below w.heap.size w w := Below.refl _ _
      have T0 := hT
      go_wp2_with fail
      refine (wAdd_bad _ _ (.inl Ha.out) (by omega) (by omega) _ T0).mono ?_
      rintro e w1 ⟨rfl, b1⟩
      have B1 := B0.trans (b1.mono B0.size)
      have T1 := T0.below (Nat.le_refl _) b1
      clear B0 b1 T0
      go_wp2_with fail
      refine (refAdd3_bad _ _ (.inl Ha.out) _ (by omega) (by omega)).mono ?_
      rintro e w' ⟨rfl, rfl⟩
      go_wp2_with fail
      refine (wSub_bad _ _ (.inl Ha.out) (by omega) (by omega) _ T1).mono ?_
      rintro e w2 ⟨rfl, b2⟩
      have B2 := B1.trans (b2.mono B1.size)
      have T2 := T1.below (Nat.le_refl _) b2
      clear B1 b2 T1
      go_wp2_with fail
      refine (refSub3_bad _ _ (.inl Ha.out) _ (by omega) (by omega)).mono ?_
      rintro e w' ⟨rfl, rfl⟩
      go_wp2_with fail
      refine (wNeg_bad a Ha.out (by omega) _ T2).mono ?_
      rintro e w3 ⟨rfl, b3⟩
      have B3 := B2.trans (b3.mono B2.size)
      have T3 := T2.below (Nat.le_refl _) b3
      clear B2 b3 T2
      go_wp2_with fail
      refine (refNeg3_bad a Ha.out _ (by omega)).mono ?_
      rintro e w' ⟨rfl, rfl⟩
      go_wp2_with fail
      refine (wAbs_num y (by omega) _ T3).mono ?_
      rintro e w4 ⟨rfl, b4⟩
      have B4 := B3.trans (b4.mono B3.size)
      have T4 := T3.below (Nat.le_refl _) b4
      clear B3 b4 T3
      go_wp2_with fail
      refine (refAbs3_num y _ (by omega)).mono ?_
      rintro e w5 ⟨rfl, b5⟩
      have B5 := B4.trans (b5.mono B4.size)
      have T5 := T4.below (Nat.le_refl _) b5
      clear B4 b5 T4
      go_wp2_with fail
      refine (examples3_any _ T5).mono ?_
      rintro e w6 ⟨rfl, b6⟩
      have B6 := B5.trans (b6.mono B5.size)
      have T6 := T5.below (Nat.le_refl _) b6
      clear B5 b6 T5
      go_wp2_with fail
      go_ret
      exact ⟨rfl, B6⟩
    · have Hb : Hid (rightI b.data.toList = false) := Lib.hid (by simpa using rb)
      clear rb
      go_enter Tryd.func4, Tryd.ntmps4
      have B0 : Below w.heap.size w w := Below.refl _ _
      have T0 := hT
      go_wp2_with fail
      refine (wAdd_bad _ _ (.inl Ha.out) (by omega) (by omega) _ T0).mono ?_
      rintro e w1 ⟨rfl, b1⟩
      have B1 := B0.trans (b1.mono B0.size)
      have T1 := T0.below (Nat.le_refl _) b1
      clear B0 b1 T0
      go_wp2_with fail
      refine (refAdd3_bad _ _ (.inl Ha.out) _ (by omega) (by omega)).mono ?_
      rintro e w' ⟨rfl, rfl⟩
      go_wp2_with fail
      refine (wSub_bad _ _ (.inl Ha.out) (by omega) (by omega) _ T1).mono ?_
      rintro e w2 ⟨rfl, b2⟩
      have B2 := B1.trans (b2.mono B1.size)
      have T2 := T1.below (Nat.le_refl _) b2
      clear B1 b2 T1
      go_wp2_with fail
      refine (refSub3_bad _ _ (.inl Ha.out) _ (by omega) (by omega)).mono ?_
      rintro e w' ⟨rfl, rfl⟩
      go_wp2_with fail
      refine (wNeg_bad a Ha.out (by omega) _ T2).mono ?_
      rintro e w3 ⟨rfl, b3⟩
      have B3 := B2.trans (b3.mono B2.size)
      have T3 := T2.below (Nat.le_refl _) b3
      clear B2 b3 T2
      go_wp2_with fail
      refine (refNeg3_bad a Ha.out _ (by omega)).mono ?_
      rintro e w' ⟨rfl, rfl⟩
      go_wp2_with fail
      refine (wAbs_bad b Hb.out (by omega) _ T3).mono ?_
      rintro e w4 ⟨rfl, b4⟩
      have B4 := B3.trans (b4.mono B3.size)
      have T4 := T3.below (Nat.le_refl _) b4
      clear B3 b4 T3
      go_wp2_with fail
      refine (refAbs3_bad b Hb.out _ (by omega)).mono ?_
      rintro e w' ⟨rfl, rfl⟩
      go_wp2_with fail
      refine (examples3_any _ T4).mono ?_
      rintro e w5 ⟨rfl, b5⟩
      have B5 := B4.trans (b5.mono B4.size)
      have T5 := T4.below (Nat.le_refl _) b5
      clear B4 b5 T4
      go_wp2_with fail
      go_ret
      exact ⟨rfl, B5⟩

end Go.Proofs.YtifcmnjaplmeiaaDoor.D
