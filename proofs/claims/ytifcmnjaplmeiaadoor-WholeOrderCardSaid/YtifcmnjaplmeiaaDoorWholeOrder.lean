/-
  DERIVED. The walk of WholeOrder.
-/
import Derived.Test.YtifcmnjaplmeiaaDoorWholeLaw
namespace Go.Proofs.YtifcmnjaplmeiaaDoor.D
open Go.RowKit

set_option maxRecDepth 100000 in
set_option maxHeartbeats 4000000 in
theorem wholeOrder_walk (a b c : ByteArray) (n : Int) (h1 : -9223372036854775808 ≤ n) (h2 : n ≤ 9223372036854775807) (w : World) (hT : Tab w) :
    Calls Tryd.prog 10 #[.string a, .string b, .string c, .int .i64 n] w fun e w' => e = .returned (.bool true) ∧ Below w.heap.size w w' := by
  by_cases ha : 60 < a.size
  · go_enter Tryd.func10, Tryd.ntmps10
    have B0 : Below w.heap.size w w := Below.refl _ _
    have T0 := hT
    go_wp2_with fail
    refine (examples3_any _ T0).mono ?_
    rintro e w1 ⟨rfl, b1⟩
    have B1 := B0.trans (b1.mono B0.size)
    have T1 := T0.below (Nat.le_refl _) b1
    clear B0 b1 T0
    go_wp2_with fail
    go_ret
    exact ⟨rfl, B1⟩
  by_cases hb : 60 < b.size
  · go_enter Tryd.func10, Tryd.ntmps10
    have B0 : Below w.heap.size w w := Below.refl _ _
    have T0 := hT
    go_wp2_with fail
    refine (examples3_any _ T0).mono ?_
    rintro e w1 ⟨rfl, b1⟩
    have B1 := B0.trans (b1.mono B0.size)
    have T1 := T0.below (Nat.le_refl _) b1
    clear B0 b1 T0
    go_wp2_with fail
    go_ret
    exact ⟨rfl, B1⟩
  by_cases hc : 60 < c.size
  · go_enter Tryd.func10, Tryd.ntmps10
    have B0 : Below w.heap.size w w := Below.refl _ _
    have T0 := hT
    go_wp2_with fail
    refine (examples3_any _ T0).mono ?_
    rintro e w1 ⟨rfl, b1⟩
    have B1 := B0.trans (b1.mono B0.size)
    have T1 := T0.below (Nat.le_refl _) b1
    clear B0 b1 T0
    go_wp2_with fail
    go_ret
    exact ⟨rfl, B1⟩
  have sa : a.size ≤ 60 := by omega
  have sb : b.size ≤ 60 := by omega
  have sc : c.size ≤ 60 := by omega
  clear ha hb hc
  by_cases ra : rightI a.data.toList = true
  · obtain ⟨x, rfl⟩ := rightI_str a ra
    clear ra
    have na := nd_sz sa
    by_cases rb : rightI b.data.toList = true
    · obtain ⟨y, rfl⟩ := rightI_str b rb
      clear rb
      have nb := nd_sz sb
      by_cases rc : rightI c.data.toList = true
      · obtain ⟨z, rfl⟩ := rightI_str c rc
        clear rc
        have nc := nd_sz sc
        obtain ⟨d, hd⟩ : ∃ d, x - y = d := ⟨_, rfl⟩
        have nd' := nda_sub hd na nb
        have sd := szk nd'
        have HD := Lib.hid hd
        obtain ⟨c2, hc2⟩ : ∃ c, cmpI y z = c := ⟨_, rfl⟩
        obtain ⟨c3, hc3⟩ : ∃ c, cmpI x z = c := ⟨_, rfl⟩
        have H2 := Lib.hid hc2
        have H3 := Lib.hid hc3
        have heq := eq_inum x y
        have HN : Hid ((inum n).size ≤ 21) := Lib.hid (szk (nd_le _ 19 (by omega)))
        rcases Int.lt_trichotomy x y with h | h | h
        · have H1 : Hid (cmpI x y = (-1)) := Lib.hid (by unfold cmpI; split <;> (try split) <;> omega)
          have H1' : Hid (cmpI y x = 1) := Lib.hid (by unfold cmpI; split <;> (try split) <;> omega)
          have HS : Hid (sgnI d = (-1)) := Lib.hid (by unfold sgnI; split <;> (try split) <;> omega)
          rw [decide_eq_false (by omega)] at heq
          by_cases h23 : 0 < c2
          · clear h hd hc2 hc3
            go_enter Tryd.func10, Tryd.ntmps10
            have B0 : Below w.heap.size w w := Below.refl _ _
            have T0 := hT
            go_wp2_with fail
            refine (refRight3_e _ true (right_inum x) _ (by omega)).mono ?_
            rintro e w' ⟨rfl, rfl⟩
            go_wp2_with fail
            refine (refRight3_e _ true (right_inum y) _ (by omega)).mono ?_
            rintro e w' ⟨rfl, rfl⟩
            go_wp2_with fail
            refine (refRight3_e _ true (right_inum z) _ (by omega)).mono ?_
            rintro e w' ⟨rfl, rfl⟩
            go_wp2_with fail
            refine (wCompare_c x y (-1) H1 (by omega) (by omega) _ T0).mono ?_
            rintro e w1 ⟨rfl, b1⟩
            have B1 := B0.trans (b1.mono B0.size)
            have T1 := T0.below (Nat.le_refl _) b1
            clear B0 b1 T0
            go_wp2_with fail
            refine (wCompare_c y x 1 H1' (by omega) (by omega) _ T1).mono ?_
            rintro e w2 ⟨rfl, b2⟩
            have B2 := B1.trans (b2.mono B1.size)
            have T2 := T1.below (Nat.le_refl _) b2
            clear B1 b2 T1
            go_wp2_with fail
            refine (wCompare_c y z c2 H2 (by omega) (by omega) _ T2).mono ?_
            rintro e w3 ⟨rfl, b3⟩
            have B3 := B2.trans (b3.mono B2.size)
            have T3 := T2.below (Nat.le_refl _) b3
            clear B2 b3 T2
            go_wp2_with fail
            refine (wCompare_c x z c3 H3 (by omega) (by omega) _ T3).mono ?_
            rintro e w4 ⟨rfl, b4⟩
            have B4 := B3.trans (b4.mono B3.size)
            have T4 := T3.below (Nat.le_refl _) b4
            clear B3 b4 T3
            go_wp2_with fail
            refine (wSub_num x y d HD (by omega) (by omega) (by omega) _ T4).mono ?_
            rintro e w5 ⟨rfl, b5⟩
            have B5 := B4.trans (b5.mono B4.size)
            have T5 := T4.below (Nat.le_refl _) b5
            clear B4 b5 T4
            go_wp2_with fail
            refine (wOf_any n h1 h2 _ T5).mono ?_
            rintro e w6 ⟨rfl, b6⟩
            have B6 := B5.trans (b6.mono B5.size)
            have T6 := T5.below (Nat.le_refl _) b6
            clear B5 b6 T5
            go_wp2_with fail
            refine (wInt_in n h1 h2 _ T6).mono ?_
            rintro e w7 ⟨rfl, b7⟩
            have B7 := B6.trans (b7.mono B6.size)
            have T7 := T6.below (Nat.le_refl _) b7
            clear B6 b7 T6
            go_wp2_with fail
            refine (wSign_c d (-1) HS (by omega) _ T7).mono ?_
            rintro e w8 ⟨rfl, b8⟩
            have B8 := B7.trans (b8.mono B7.size)
            have T8 := T7.below (Nat.le_refl _) b8
            clear B7 b8 T7
            go_wp2_with fail
            refine (examples3_any _ T8).mono ?_
            rintro e w9 ⟨rfl, b9⟩
            have B9 := B8.trans (b9.mono B8.size)
            have T9 := T8.below (Nat.le_refl _) b9
            clear B8 b9 T8
            go_wp2_with fail
            go_ret
            exact ⟨rfl, B9⟩
          · have h3 : c3 ≤ 0 := by rw [← hc2] at h23; rw [← hc3]; unfold cmpI at *; split at h23 <;> (try split at h23) <;> split <;> (try split) <;> omega
            clear h hd hc2 hc3
            go_enter Tryd.func10, Tryd.ntmps10
            have B0 : Below w.heap.size w w := Below.refl _ _
            have T0 := hT
            go_wp2_with fail
            refine (refRight3_e _ true (right_inum x) _ (by omega)).mono ?_
            rintro e w' ⟨rfl, rfl⟩
            go_wp2_with fail
            refine (refRight3_e _ true (right_inum y) _ (by omega)).mono ?_
            rintro e w' ⟨rfl, rfl⟩
            go_wp2_with fail
            refine (refRight3_e _ true (right_inum z) _ (by omega)).mono ?_
            rintro e w' ⟨rfl, rfl⟩
            go_wp2_with fail
            refine (wCompare_c x y (-1) H1 (by omega) (by omega) _ T0).mono ?_
            rintro e w1 ⟨rfl, b1⟩
            have B1 := B0.trans (b1.mono B0.size)
            have T1 := T0.below (Nat.le_refl _) b1
            clear B0 b1 T0
            go_wp2_with fail
            refine (wCompare_c y x 1 H1' (by omega) (by omega) _ T1).mono ?_
            rintro e w2 ⟨rfl, b2⟩
            have B2 := B1.trans (b2.mono B1.size)
            have T2 := T1.below (Nat.le_refl _) b2
            clear B1 b2 T1
            go_wp2_with fail
            refine (wCompare_c y z c2 H2 (by omega) (by omega) _ T2).mono ?_
            rintro e w3 ⟨rfl, b3⟩
            have B3 := B2.trans (b3.mono B2.size)
            have T3 := T2.below (Nat.le_refl _) b3
            clear B2 b3 T2
            go_wp2_with fail
            refine (wCompare_c x z c3 H3 (by omega) (by omega) _ T3).mono ?_
            rintro e w4 ⟨rfl, b4⟩
            have B4 := B3.trans (b4.mono B3.size)
            have T4 := T3.below (Nat.le_refl _) b4
            clear B3 b4 T3
            go_wp2_with fail
            refine (wSub_num x y d HD (by omega) (by omega) (by omega) _ T4).mono ?_
            rintro e w5 ⟨rfl, b5⟩
            have B5 := B4.trans (b5.mono B4.size)
            have T5 := T4.below (Nat.le_refl _) b5
            clear B4 b5 T4
            go_wp2_with fail
            refine (wOf_any n h1 h2 _ T5).mono ?_
            rintro e w6 ⟨rfl, b6⟩
            have B6 := B5.trans (b6.mono B5.size)
            have T6 := T5.below (Nat.le_refl _) b6
            clear B5 b6 T5
            go_wp2_with fail
            refine (wInt_in n h1 h2 _ T6).mono ?_
            rintro e w7 ⟨rfl, b7⟩
            have B7 := B6.trans (b7.mono B6.size)
            have T7 := T6.below (Nat.le_refl _) b7
            clear B6 b7 T6
            go_wp2_with fail
            refine (wSign_c d (-1) HS (by omega) _ T7).mono ?_
            rintro e w8 ⟨rfl, b8⟩
            have B8 := B7.trans (b8.mono B7.size)
            have T8 := T7.below (Nat.le_refl _) b8
            clear B7 b8 T7
            go_wp2_with fail
            refine (examples3_any _ T8).mono ?_
            rintro e w9 ⟨rfl, b9⟩
            have B9 := B8.trans (b9.mono B8.size)
            have T9 := T8.below (Nat.le_refl _) b9
            clear B8 b9 T8
            go_wp2_with fail
            go_ret
            exact ⟨rfl, B9⟩
        · have H1 : Hid (cmpI x y = 0) := Lib.hid (by unfold cmpI; split <;> (try split) <;> omega)
          have H1' : Hid (cmpI y x = 0) := Lib.hid (by unfold cmpI; split <;> (try split) <;> omega)
          have HS : Hid (sgnI d = 0) := Lib.hid (by unfold sgnI; split <;> (try split) <;> omega)
          rw [decide_eq_true h] at heq
          by_cases h23 : 0 < c2
          · clear h hd hc2 hc3
            go_enter Tryd.func10, Tryd.ntmps10
            have B0 : Below w.heap.size w w := Below.refl _ _
            have T0 := hT
            go_wp2_with fail
            refine (refRight3_e _ true (right_inum x) _ (by omega)).mono ?_
            rintro e w' ⟨rfl, rfl⟩
            go_wp2_with fail
            refine (refRight3_e _ true (right_inum y) _ (by omega)).mono ?_
            rintro e w' ⟨rfl, rfl⟩
            go_wp2_with fail
            refine (refRight3_e _ true (right_inum z) _ (by omega)).mono ?_
            rintro e w' ⟨rfl, rfl⟩
            go_wp2_with fail
            refine (wCompare_c x y 0 H1 (by omega) (by omega) _ T0).mono ?_
            rintro e w1 ⟨rfl, b1⟩
            have B1 := B0.trans (b1.mono B0.size)
            have T1 := T0.below (Nat.le_refl _) b1
            clear B0 b1 T0
            go_wp2_with fail
            refine (wCompare_c y x 0 H1' (by omega) (by omega) _ T1).mono ?_
            rintro e w2 ⟨rfl, b2⟩
            have B2 := B1.trans (b2.mono B1.size)
            have T2 := T1.below (Nat.le_refl _) b2
            clear B1 b2 T1
            go_wp2_with fail
            refine (wCompare_c y z c2 H2 (by omega) (by omega) _ T2).mono ?_
            rintro e w3 ⟨rfl, b3⟩
            have B3 := B2.trans (b3.mono B2.size)
            have T3 := T2.below (Nat.le_refl _) b3
            clear B2 b3 T2
            go_wp2_with fail
            refine (wCompare_c x z c3 H3 (by omega) (by omega) _ T3).mono ?_
            rintro e w4 ⟨rfl, b4⟩
            have B4 := B3.trans (b4.mono B3.size)
            have T4 := T3.below (Nat.le_refl _) b4
            clear B3 b4 T3
            go_wp2_with fail
            refine (wSub_num x y d HD (by omega) (by omega) (by omega) _ T4).mono ?_
            rintro e w5 ⟨rfl, b5⟩
            have B5 := B4.trans (b5.mono B4.size)
            have T5 := T4.below (Nat.le_refl _) b5
            clear B4 b5 T4
            go_wp2_with fail
            refine (wOf_any n h1 h2 _ T5).mono ?_
            rintro e w6 ⟨rfl, b6⟩
            have B6 := B5.trans (b6.mono B5.size)
            have T6 := T5.below (Nat.le_refl _) b6
            clear B5 b6 T5
            go_wp2_with fail
            refine (wInt_in n h1 h2 _ T6).mono ?_
            rintro e w7 ⟨rfl, b7⟩
            have B7 := B6.trans (b7.mono B6.size)
            have T7 := T6.below (Nat.le_refl _) b7
            clear B6 b7 T6
            go_wp2_with fail
            refine (wSign_c d 0 HS (by omega) _ T7).mono ?_
            rintro e w8 ⟨rfl, b8⟩
            have B8 := B7.trans (b8.mono B7.size)
            have T8 := T7.below (Nat.le_refl _) b8
            clear B7 b8 T7
            go_wp2_with fail
            refine (examples3_any _ T8).mono ?_
            rintro e w9 ⟨rfl, b9⟩
            have B9 := B8.trans (b9.mono B8.size)
            have T9 := T8.below (Nat.le_refl _) b9
            clear B8 b9 T8
            go_wp2_with fail
            go_ret
            exact ⟨rfl, B9⟩
          · have h3 : c3 ≤ 0 := by rw [← hc2] at h23; rw [← hc3]; unfold cmpI at *; split at h23 <;> (try split at h23) <;> split <;> (try split) <;> omega
            clear h hd hc2 hc3
            go_enter Tryd.func10, Tryd.ntmps10
            have B0 : Below w.heap.size w w := Below.refl _ _
            have T0 := hT
            go_wp2_with fail
            refine (refRight3_e _ true (right_inum x) _ (by omega)).mono ?_
            rintro e w' ⟨rfl, rfl⟩
            go_wp2_with fail
            refine (refRight3_e _ true (right_inum y) _ (by omega)).mono ?_
            rintro e w' ⟨rfl, rfl⟩
            go_wp2_with fail
            refine (refRight3_e _ true (right_inum z) _ (by omega)).mono ?_
            rintro e w' ⟨rfl, rfl⟩
            go_wp2_with fail
            refine (wCompare_c x y 0 H1 (by omega) (by omega) _ T0).mono ?_
            rintro e w1 ⟨rfl, b1⟩
            have B1 := B0.trans (b1.mono B0.size)
            have T1 := T0.below (Nat.le_refl _) b1
            clear B0 b1 T0
            go_wp2_with fail
            refine (wCompare_c y x 0 H1' (by omega) (by omega) _ T1).mono ?_
            rintro e w2 ⟨rfl, b2⟩
            have B2 := B1.trans (b2.mono B1.size)
            have T2 := T1.below (Nat.le_refl _) b2
            clear B1 b2 T1
            go_wp2_with fail
            refine (wCompare_c y z c2 H2 (by omega) (by omega) _ T2).mono ?_
            rintro e w3 ⟨rfl, b3⟩
            have B3 := B2.trans (b3.mono B2.size)
            have T3 := T2.below (Nat.le_refl _) b3
            clear B2 b3 T2
            go_wp2_with fail
            refine (wCompare_c x z c3 H3 (by omega) (by omega) _ T3).mono ?_
            rintro e w4 ⟨rfl, b4⟩
            have B4 := B3.trans (b4.mono B3.size)
            have T4 := T3.below (Nat.le_refl _) b4
            clear B3 b4 T3
            go_wp2_with fail
            refine (wSub_num x y d HD (by omega) (by omega) (by omega) _ T4).mono ?_
            rintro e w5 ⟨rfl, b5⟩
            have B5 := B4.trans (b5.mono B4.size)
            have T5 := T4.below (Nat.le_refl _) b5
            clear B4 b5 T4
            go_wp2_with fail
            refine (wOf_any n h1 h2 _ T5).mono ?_
            rintro e w6 ⟨rfl, b6⟩
            have B6 := B5.trans (b6.mono B5.size)
            have T6 := T5.below (Nat.le_refl _) b6
            clear B5 b6 T5
            go_wp2_with fail
            refine (wInt_in n h1 h2 _ T6).mono ?_
            rintro e w7 ⟨rfl, b7⟩
            have B7 := B6.trans (b7.mono B6.size)
            have T7 := T6.below (Nat.le_refl _) b7
            clear B6 b7 T6
            go_wp2_with fail
            refine (wSign_c d 0 HS (by omega) _ T7).mono ?_
            rintro e w8 ⟨rfl, b8⟩
            have B8 := B7.trans (b8.mono B7.size)
            have T8 := T7.below (Nat.le_refl _) b8
            clear B7 b8 T7
            go_wp2_with fail
            refine (examples3_any _ T8).mono ?_
            rintro e w9 ⟨rfl, b9⟩
            have B9 := B8.trans (b9.mono B8.size)
            have T9 := T8.below (Nat.le_refl _) b9
            clear B8 b9 T8
            go_wp2_with fail
            go_ret
            exact ⟨rfl, B9⟩
        · have H1 : Hid (cmpI x y = 1) := Lib.hid (by unfold cmpI; split <;> (try split) <;> omega)
          have H1' : Hid (cmpI y x = (-1)) := Lib.hid (by unfold cmpI; split <;> (try split) <;> omega)
          have HS : Hid (sgnI d = 1) := Lib.hid (by unfold sgnI; split <;> (try split) <;> omega)
          rw [decide_eq_false (by omega)] at heq
          clear h hd hc2 hc3
          go_enter Tryd.func10, Tryd.ntmps10
          have B0 : Below w.heap.size w w := Below.refl _ _
          have T0 := hT
          go_wp2_with fail
          refine (refRight3_e _ true (right_inum x) _ (by omega)).mono ?_
          rintro e w' ⟨rfl, rfl⟩
          go_wp2_with fail
          refine (refRight3_e _ true (right_inum y) _ (by omega)).mono ?_
          rintro e w' ⟨rfl, rfl⟩
          go_wp2_with fail
          refine (refRight3_e _ true (right_inum z) _ (by omega)).mono ?_
          rintro e w' ⟨rfl, rfl⟩
          go_wp2_with fail
          refine (wCompare_c x y 1 H1 (by omega) (by omega) _ T0).mono ?_
          rintro e w1 ⟨rfl, b1⟩
          have B1 := B0.trans (b1.mono B0.size)
          have T1 := T0.below (Nat.le_refl _) b1
          clear B0 b1 T0
          go_wp2_with fail
          refine (wCompare_c y x (-1) H1' (by omega) (by omega) _ T1).mono ?_
          rintro e w2 ⟨rfl, b2⟩
          have B2 := B1.trans (b2.mono B1.size)
          have T2 := T1.below (Nat.le_refl _) b2
          clear B1 b2 T1
          go_wp2_with fail
          refine (wCompare_c y z c2 H2 (by omega) (by omega) _ T2).mono ?_
          rintro e w3 ⟨rfl, b3⟩
          have B3 := B2.trans (b3.mono B2.size)
          have T3 := T2.below (Nat.le_refl _) b3
          clear B2 b3 T2
          go_wp2_with fail
          refine (wCompare_c x z c3 H3 (by omega) (by omega) _ T3).mono ?_
          rintro e w4 ⟨rfl, b4⟩
          have B4 := B3.trans (b4.mono B3.size)
          have T4 := T3.below (Nat.le_refl _) b4
          clear B3 b4 T3
          go_wp2_with fail
          refine (wSub_num x y d HD (by omega) (by omega) (by omega) _ T4).mono ?_
          rintro e w5 ⟨rfl, b5⟩
          have B5 := B4.trans (b5.mono B4.size)
          have T5 := T4.below (Nat.le_refl _) b5
          clear B4 b5 T4
          go_wp2_with fail
          refine (wOf_any n h1 h2 _ T5).mono ?_
          rintro e w6 ⟨rfl, b6⟩
          have B6 := B5.trans (b6.mono B5.size)
          have T6 := T5.below (Nat.le_refl _) b6
          clear B5 b6 T5
          go_wp2_with fail
          refine (wInt_in n h1 h2 _ T6).mono ?_
          rintro e w7 ⟨rfl, b7⟩
          have B7 := B6.trans (b7.mono B6.size)
          have T7 := T6.below (Nat.le_refl _) b7
          clear B6 b7 T6
          go_wp2_with fail
          refine (wSign_c d 1 HS (by omega) _ T7).mono ?_
          rintro e w8 ⟨rfl, b8⟩
          have B8 := B7.trans (b8.mono B7.size)
          have T8 := T7.below (Nat.le_refl _) b8
          clear B7 b8 T7
          go_wp2_with fail
          refine (examples3_any _ T8).mono ?_
          rintro e w9 ⟨rfl, b9⟩
          have B9 := B8.trans (b9.mono B8.size)
          have T9 := T8.below (Nat.le_refl _) b9
          clear B8 b9 T8
          go_wp2_with fail
          go_ret
          exact ⟨rfl, B9⟩
      · have Hc : Hid (rightI c.data.toList = false) := Lib.hid (by simpa using rc)
        clear rc
        go_enter Tryd.func10, Tryd.ntmps10
        have B0 : Below w.heap.size w w := Below.refl _ _
        have T0 := hT
        go_wp2_with fail
        refine (refRight3_e _ true (right_inum x) _ (by omega)).mono ?_
        rintro e w' ⟨rfl, rfl⟩
        go_wp2_with fail
        refine (refRight3_e _ true (right_inum y) _ (by omega)).mono ?_
        rintro e w' ⟨rfl, rfl⟩
        go_wp2_with fail
        refine (refRight3_e _ false Hc _ (by omega)).mono ?_
        rintro e w' ⟨rfl, rfl⟩
        go_wp2_with fail
        refine (examples3_any _ T0).mono ?_
        rintro e w1 ⟨rfl, b1⟩
        have B1 := B0.trans (b1.mono B0.size)
        have T1 := T0.below (Nat.le_refl _) b1
        clear B0 b1 T0
        go_wp2_with fail
        go_ret
        exact ⟨rfl, B1⟩
    · have Hb : Hid (rightI b.data.toList = false) := Lib.hid (by simpa using rb)
      clear rb
      go_enter Tryd.func10, Tryd.ntmps10
      have B0 : Below w.heap.size w w := Below.refl _ _
      have T0 := hT
      go_wp2_with fail
      refine (refRight3_e _ true (right_inum x) _ (by omega)).mono ?_
      rintro e w' ⟨rfl, rfl⟩
      go_wp2_with fail
      refine (refRight3_e _ false Hb _ (by omega)).mono ?_
      rintro e w' ⟨rfl, rfl⟩
      go_wp2_with fail
      refine (examples3_any _ T0).mono ?_
      rintro e w1 ⟨rfl, b1⟩
      have B1 := B0.trans (b1.mono B0.size)
      have T1 := T0.below (Nat.le_refl _) b1
      clear B0 b1 T0
      go_wp2_with fail
      go_ret
      exact ⟨rfl, B1⟩
  · have Ha : Hid (rightI a.data.toList = false) := Lib.hid (by simpa using ra)
    clear ra
    go_enter Tryd.func10, Tryd.ntmps10
    have B0 : Below w.heap.size w w := Below.refl _ _
    have T0 := hT
    go_wp2_with fail
    refine (refRight3_e _ false Ha _ (by omega)).mono ?_
    rintro e w' ⟨rfl, rfl⟩
    go_wp2_with fail
    refine (examples3_any _ T0).mono ?_
    rintro e w1 ⟨rfl, b1⟩
    have B1 := B0.trans (b1.mono B0.size)
    have T1 := T0.below (Nat.le_refl _) b1
    clear B0 b1 T0
    go_wp2_with fail
    go_ret
    exact ⟨rfl, B1⟩

end Go.Proofs.YtifcmnjaplmeiaaDoor.D
