/-
  DERIVED. The walk of WholeDivides.
-/
import Derived.Test.YtifcmnjaplmeiaaDoorWholeLaw
namespace Go.Proofs.YtifcmnjaplmeiaaDoor.D
open Go.RowKit

set_option maxRecDepth 100000 in
set_option maxHeartbeats 2000000 in
theorem wholeDivides_walk (a b : ByteArray) (w : World) (hT : Tab w) :
    Calls Tryd.prog 6 #[.string a, .string b] w fun e w' => e = .returned (.bool true) ∧ Below w.heap.size w w' := by
  by_cases ha : 100 < a.size
  · go_enter Tryd.func6, Tryd.ntmps6
    have B0 : Below w.heap.size w w := Below.refl _ _
    have T0 := hT
    go_wp2_with fail
    refine (examples3_any _ T0).mono ?_
    rintro e w1 ⟨rfl, b1⟩
    have B1 := B0.trans (b1.mono B0.size)
    have T1 := T0.below (Nat.le_refl _) b1
    clear B0 b1 T0
    go_wp2_with fail
    go_ret
    exact ⟨rfl, B1⟩
  by_cases hb : 100 < b.size
  · go_enter Tryd.func6, Tryd.ntmps6
    have B0 : Below w.heap.size w w := Below.refl _ _
    have T0 := hT
    go_wp2_with fail
    refine (examples3_any _ T0).mono ?_
    rintro e w1 ⟨rfl, b1⟩
    have B1 := B0.trans (b1.mono B0.size)
    have T1 := T0.below (Nat.le_refl _) b1
    clear B0 b1 T0
    go_wp2_with fail
    go_ret
    exact ⟨rfl, B1⟩
  have sa : a.size ≤ 100 := by omega
  have sb : b.size ≤ 100 := by omega
  clear ha hb
  by_cases ra : rightI a.data.toList = true
  · obtain ⟨x, rfl⟩ := rightI_str a ra
    clear ra
    have na := nd_sz sa
    by_cases rb : rightI b.data.toList = true
    · obtain ⟨y, rfl⟩ := rightI_str b rb
      clear rb
      have nb := nd_sz sb
      by_cases hy : y = 0
      · subst hy
        go_enter Tryd.func6, Tryd.ntmps6
        have B0 : Below w.heap.size w w := Below.refl _ _
        have T0 := hT
        go_wp2_with fail
        refine (wDiv_zeroI x (by omega) _ T0).mono ?_
        rintro e w1 ⟨rfl, b1⟩
        have B1 := B0.trans (b1.mono B0.size)
        have T1 := T0.below (Nat.le_refl _) b1
        clear B0 b1 T0
        go_wp2_with fail
        refine (refDiv3_zero x _ (by omega)).mono ?_
        rintro e w2 ⟨rfl, b2⟩
        have B2 := B1.trans (b2.mono B1.size)
        have T2 := T1.below (Nat.le_refl _) b2
        clear B1 b2 T1
        go_wp2_with fail
        refine (examples3_any _ T2).mono ?_
        rintro e w3 ⟨rfl, b3⟩
        have B3 := B2.trans (b3.mono B2.size)
        have T3 := T2.below (Nat.le_refl _) b3
        clear B2 b3 T2
        go_wp2_with fail
        go_ret
        exact ⟨rfl, B3⟩
      · have HY := Lib.hid hy
        obtain ⟨q, hq⟩ : ∃ q, fdv x y = q := ⟨_, rfl⟩
        obtain ⟨r, hr⟩ : ∃ r, fmd x y = r := ⟨_, rfl⟩
        have nq := ndq hq na (by omega)
        have nr := ndr hy hr nb
        have HQ := Lib.hid hq
        have HR := Lib.hid hr
        clear hq hr hy
        go_enter Tryd.func6, Tryd.ntmps6
        have B0 : Below w.heap.size w w := Below.refl _ _
        have T0 := hT
        go_wp2_with fail
        refine (wDiv_num x y q r HY.out HQ HR (by omega) (by omega) _ T0).mono ?_
        rintro e w1 ⟨rfl, b1⟩
        have B1 := B0.trans (b1.mono B0.size)
        have T1 := T0.below (Nat.le_refl _) b1
        clear B0 b1 T0
        go_wp2_with fail
        refine (refDiv3_z x y q r HY.out HQ HR _ (by omega) (by omega)).mono ?_
        rintro e w2 ⟨rfl, b2⟩
        have B2 := B1.trans (b2.mono B1.size)
        have T2 := T1.below (Nat.le_refl _) b2
        clear B1 b2 T1
        go_wp2_with fail
        refine (examples3_any _ T2).mono ?_
        rintro e w3 ⟨rfl, b3⟩
        have B3 := B2.trans (b3.mono B2.size)
        have T3 := T2.below (Nat.le_refl _) b3
        clear B2 b3 T2
        go_wp2_with fail
        go_ret
        exact ⟨rfl, B3⟩
    · have Hb : Hid (rightI b.data.toList = false) := Lib.hid (by simpa using rb)
      clear rb
      go_enter Tryd.func6, Tryd.ntmps6
      have B0 : Below w.heap.size w w := Below.refl _ _
      have T0 := hT
      go_wp2_with fail
      refine (wDiv_bad _ _ (.inr Hb.out) (by omega) (by omega) _ T0).mono ?_
      rintro e w1 ⟨rfl, b1⟩
      have B1 := B0.trans (b1.mono B0.size)
      have T1 := T0.below (Nat.le_refl _) b1
      clear B0 b1 T0
      go_wp2_with fail
      refine (refDiv3_bad _ _ (.inr Hb.out) _ (by omega) (by omega)).mono ?_
      rintro e w' ⟨rfl, rfl⟩
      go_wp2_with fail
      refine (examples3_any _ T1).mono ?_
      rintro e w2 ⟨rfl, b2⟩
      have B2 := B1.trans (b2.mono B1.size)
      have T2 := T1.below (Nat.le_refl _) b2
      clear B1 b2 T1
      go_wp2_with fail
      go_ret
      exact ⟨rfl, B2⟩
  · have Ha : Hid (rightI a.data.toList = false) := Lib.hid (by simpa using ra)
    clear ra
    go_enter Tryd.func6, Tryd.ntmps6
    have B0 : Below w.heap.size w w := Below.refl _ _
    have T0 := hT
    go_wp2_with fail
    refine (wDiv_bad _ _ (.inl Ha.out) (by omega) (by omega) _ T0).mono ?_
    rintro e w1 ⟨rfl, b1⟩
    have B1 := B0.trans (b1.mono B0.size)
    have T1 := T0.below (Nat.le_refl _) b1
    clear B0 b1 T0
    go_wp2_with fail
    refine (refDiv3_bad _ _ (.inl Ha.out) _ (by omega) (by omega)).mono ?_
    rintro e w' ⟨rfl, rfl⟩
    go_wp2_with fail
    refine (examples3_any _ T1).mono ?_
    rintro e w2 ⟨rfl, b2⟩
    have B2 := B1.trans (b2.mono B1.size)
    have T2 := T1.below (Nat.le_refl _) b2
    clear B1 b2 T1
    go_wp2_with fail
    go_ret
    exact ⟨rfl, B2⟩

end Go.Proofs.YtifcmnjaplmeiaaDoor.D
