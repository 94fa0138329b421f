/-
  DERIVED. The walk of WholeRemainders.
-/
import Derived.Test.YtifcmnjaplmeiaaDoorWholeLaw
namespace Go.Proofs.YtifcmnjaplmeiaaDoor.D
open Go.RowKit

set_option maxRecDepth 100000 in
set_option maxHeartbeats 4000000 in
theorem wholeRemainders_walk (a b : ByteArray) (w : World) (hT : Tab w) :
    Calls Tryd.prog 9 #[.string a, .string b] w fun e w' => e = .returned (.bool true) ∧ Below w.heap.size w w' := by
  by_cases ha : 60 < a.size
  · go_enter Tryd.func9, Tryd.ntmps9
    have B0 : Below w.heap.size w w := Below.refl _ _
    have T0 := hT
    go_wp2_with fail
    refine (examples3_any _ T0).mono ?_
    rintro e w1 ⟨rfl, b1⟩
    have B1 := B0.trans (b1.mono B0.size)
    have T1 := T0.below (Nat.le_refl _) b1
    clear B0 b1 T0
    go_wp2_with fail
    go_ret
    exact ⟨rfl, B1⟩
  by_cases hb : 60 < b.size
  · go_enter Tryd.func9, Tryd.ntmps9
    have B0 : Below w.heap.size w w := Below.refl _ _
    have T0 := hT
    go_wp2_with fail
    refine (examples3_any _ T0).mono ?_
    rintro e w1 ⟨rfl, b1⟩
    have B1 := B0.trans (b1.mono B0.size)
    have T1 := T0.below (Nat.le_refl _) b1
    clear B0 b1 T0
    go_wp2_with fail
    go_ret
    exact ⟨rfl, B1⟩
  have sa : a.size ≤ 60 := by omega
  have sb : b.size ≤ 60 := by omega
  clear ha hb
  by_cases ra : rightI a.data.toList = true
  · obtain ⟨x, rfl⟩ := rightI_str a ra
    clear ra
    have na := nd_sz sa
    by_cases rb : rightI b.data.toList = true
    · obtain ⟨y, rfl⟩ := rightI_str b rb
      clear rb
      have nb := nd_sz sb
      by_cases hy : y = 0
      · subst hy
        have hze := zero_eqI 0
        rw [decide_eq_true rfl] at hze
        go_enter Tryd.func9, Tryd.ntmps9
        have B0 : Below w.heap.size w w := Below.refl _ _
        have T0 := hT
        go_wp2_with fail
        refine (refRight3_e _ true (right_inum x) _ (by omega)).mono ?_
        rintro e w' ⟨rfl, rfl⟩
        go_wp2_with fail
        refine (refRight3_e _ true (right_inum 0) _ (by omega)).mono ?_
        rintro e w' ⟨rfl, rfl⟩
        go_wp2_with fail
        refine (wDiv_zeroI x (by omega) _ T0).mono ?_
        rintro e w1 ⟨rfl, b1⟩
        have B1 := B0.trans (b1.mono B0.size)
        have T1 := T0.below (Nat.le_refl _) b1
        clear B0 b1 T0
        go_wp2_with fail
        refine (examples3_any _ T1).mono ?_
        rintro e w2 ⟨rfl, b2⟩
        have B2 := B1.trans (b2.mono B1.size)
        have T2 := T1.below (Nat.le_refl _) b2
        clear B1 b2 T1
        go_wp2_with fail
        go_ret
        exact ⟨rfl, B2⟩
      · have HY := Lib.hid hy
        have hze := zero_eqI y
        rw [decide_eq_false hy] at hze
        obtain ⟨q, hq⟩ : ∃ q, fdv x y = q := ⟨_, rfl⟩
        obtain ⟨r, hr⟩ : ∃ r, fmd x y = r := ⟨_, rfl⟩
        have nq := ndq hq na (by omega)
        have nr := ndr hy hr nb
        have HQ := Lib.hid hq
        have HR := Lib.hid hr
        obtain ⟨k, hk⟩ : ∃ k, q * y = k := ⟨_, rfl⟩
        have nk := nda_mul hk nq nb
        have HK := Lib.hid hk
        have HX : Hid (k + r = x) := Lib.hid (by rw [← hk, ← hq, ← hr]; exact fdv_mul x y hy)
        have hlt : r.natAbs < y.natAbs := by rw [← hr]; exact fmd_lt x y hy
        have nra : nd (r.natAbs : Int).natAbs ≤ 60 := nr
        have nya : nd (y.natAbs : Int).natAbs ≤ 60 := nb
        have sra := szk nra
        have sya := szk nya
        have sr := szk nr
        have HC : Hid (cmpI (r.natAbs : Int) (y.natAbs : Int) = -1) := Lib.hid (by rw [cmpI, if_pos (by omega)])
        have hsg := fun h => fmd_sgn x y h
        rw [hr] at hsg
        have hzr := zero_eqI r
        clear hlt hq hr hk
        by_cases hr0 : r = 0
        · rw [decide_eq_true hr0] at hzr
          clear hr0 hsg hy
          go_enter Tryd.func9, Tryd.ntmps9
          have B0 : Below w.heap.size w w := Below.refl _ _
          have T0 := hT
          go_wp2_with fail
          refine (refRight3_e _ true (right_inum x) _ (by omega)).mono ?_
          rintro e w' ⟨rfl, rfl⟩
          go_wp2_with fail
          refine (refRight3_e _ true (right_inum y) _ (by omega)).mono ?_
          rintro e w' ⟨rfl, rfl⟩
          go_wp2_with fail
          refine (wDiv_num x y q r HY.out HQ HR (by omega) (by omega) _ T0).mono ?_
          rintro e w1 ⟨rfl, b1⟩
          have B1 := B0.trans (b1.mono B0.size)
          have T1 := T0.below (Nat.le_refl _) b1
          clear B0 b1 T0
          go_wp2_with fail
          refine (wMul_num q y k HK (by omega) (by omega) (by omega) _ T1).mono ?_
          rintro e w2 ⟨rfl, b2⟩
          have B2 := B1.trans (b2.mono B1.size)
          have T2 := T1.below (Nat.le_refl _) b2
          clear B1 b2 T1
          go_wp2_with fail
          refine (wAdd_num k r x HX (by omega) (by omega) (by omega) _ T2).mono ?_
          rintro e w3 ⟨rfl, b3⟩
          have B3 := B2.trans (b3.mono B2.size)
          have T3 := T2.below (Nat.le_refl _) b3
          clear B2 b3 T2
          go_wp2_with fail
          refine (wAbs_num r (by omega) _ T3).mono ?_
          rintro e w4 ⟨rfl, b4⟩
          have B4 := B3.trans (b4.mono B3.size)
          have T4 := T3.below (Nat.le_refl _) b4
          clear B3 b4 T3
          go_wp2_with fail
          refine (wAbs_num y (by omega) _ T4).mono ?_
          rintro e w5 ⟨rfl, b5⟩
          have B5 := B4.trans (b5.mono B4.size)
          have T5 := T4.below (Nat.le_refl _) b5
          clear B4 b5 T4
          go_wp2_with fail
          refine (wCompare_c (r.natAbs : Int) (y.natAbs : Int) (-1) HC (by omega) (by omega) _ T5).mono ?_
          rintro e w6 ⟨rfl, b6⟩
          have B6 := B5.trans (b6.mono B5.size)
          have T6 := T5.below (Nat.le_refl _) b6
          clear B5 b6 T5
          go_wp2_with fail
          refine (examples3_any _ T6).mono ?_
          rintro e w7 ⟨rfl, b7⟩
          have B7 := B6.trans (b7.mono B6.size)
          have T7 := T6.below (Nat.le_refl _) b7
          clear B6 b7 T6
          go_wp2_with fail
          go_ret
          exact ⟨rfl, B7⟩
        · rw [decide_eq_false hr0] at hzr
          obtain ⟨c, hc⟩ : ∃ c, sgnI y = c := ⟨_, rfl⟩
          have HS1 : Hid (sgnI r = c) := Lib.hid (by rw [← hc]; have := hsg hr0; unfold sgnI; split <;> split <;> (try split) <;> (try split) <;> omega)
          have HS2 := Lib.hid hc
          clear hr0 hsg hy hc
          go_enter Tryd.func9, Tryd.ntmps9
          have B0 : Below w.heap.size w w := Below.refl _ _
          have T0 := hT
          go_wp2_with fail
          refine (refRight3_e _ true (right_inum x) _ (by omega)).mono ?_
          rintro e w' ⟨rfl, rfl⟩
          go_wp2_with fail
          refine (refRight3_e _ true (right_inum y) _ (by omega)).mono ?_
          rintro e w' ⟨rfl, rfl⟩
          go_wp2_with fail
          refine (wDiv_num x y q r HY.out HQ HR (by omega) (by omega) _ T0).mono ?_
          rintro e w1 ⟨rfl, b1⟩
          have B1 := B0.trans (b1.mono B0.size)
          have T1 := T0.below (Nat.le_refl _) b1
          clear B0 b1 T0
          go_wp2_with fail
          refine (wMul_num q y k HK (by omega) (by omega) (by omega) _ T1).mono ?_
          rintro e w2 ⟨rfl, b2⟩
          have B2 := B1.trans (b2.mono B1.size)
          have T2 := T1.below (Nat.le_refl _) b2
          clear B1 b2 T1
          go_wp2_with fail
          refine (wAdd_num k r x HX (by omega) (by omega) (by omega) _ T2).mono ?_
          rintro e w3 ⟨rfl, b3⟩
          have B3 := B2.trans (b3.mono B2.size)
          have T3 := T2.below (Nat.le_refl _) b3
          clear B2 b3 T2
          go_wp2_with fail
          refine (wAbs_num r (by omega) _ T3).mono ?_
          rintro e w4 ⟨rfl, b4⟩
          have B4 := B3.trans (b4.mono B3.size)
          have T4 := T3.below (Nat.le_refl _) b4
          clear B3 b4 T3
          go_wp2_with fail
          refine (wAbs_num y (by omega) _ T4).mono ?_
          rintro e w5 ⟨rfl, b5⟩
          have B5 := B4.trans (b5.mono B4.size)
          have T5 := T4.below (Nat.le_refl _) b5
          clear B4 b5 T4
          go_wp2_with fail
          refine (wCompare_c (r.natAbs : Int) (y.natAbs : Int) (-1) HC (by omega) (by omega) _ T5).mono ?_
          rintro e w6 ⟨rfl, b6⟩
          have B6 := B5.trans (b6.mono B5.size)
          have T6 := T5.below (Nat.le_refl _) b6
          clear B5 b6 T5
          go_wp2_with fail
          refine (wSign_c r c HS1 (by omega) _ T6).mono ?_
          rintro e w7 ⟨rfl, b7⟩
          have B7 := B6.trans (b7.mono B6.size)
          have T7 := T6.below (Nat.le_refl _) b7
          clear B6 b7 T6
          go_wp2_with fail
          refine (wSign_c y c HS2 (by omega) _ T7).mono ?_
          rintro e w8 ⟨rfl, b8⟩
          have B8 := B7.trans (b8.mono B7.size)
          have T8 := T7.below (Nat.le_refl _) b8
          clear B7 b8 T7
          go_wp2_with fail
          refine (examples3_any _ T8).mono ?_
          rintro e w9 ⟨rfl, b9⟩
          have B9 := B8.trans (b9.mono B8.size)
          have T9 := T8.below (Nat.le_refl _) b9
          clear B8 b9 T8
          go_wp2_with fail
          go_ret
          exact ⟨rfl, B9⟩
    · have Hb : Hid (rightI b.data.toList = false) := Lib.hid (by simpa using rb)
      clear rb
      go_enter Tryd.func9, Tryd.ntmps9
      have B0 : Below w.heap.size w w := Below.refl _ _
      have T0 := hT
      go_wp2_with fail
      refine (refRight3_e _ true (right_inum x) _ (by omega)).mono ?_
      rintro e w' ⟨rfl, rfl⟩
      go_wp2_with fail
      refine (refRight3_e _ false Hb _ (by omega)).mono ?_
      rintro e w' ⟨rfl, rfl⟩
      go_wp2_with fail
      refine (examples3_any _ T0).mono ?_
      rintro e w1 ⟨rfl, b1⟩
      have B1 := B0.trans (b1.mono B0.size)
      have T1 := T0.below (Nat.le_refl _) b1
      clear B0 b1 T0
      go_wp2_with fail
      go_ret
      exact ⟨rfl, B1⟩
  · have Ha : Hid (rightI a.data.toList = false) := Lib.hid (by simpa using ra)
    clear ra
    go_enter Tryd.func9, Tryd.ntmps9
    have B0 : Below w.heap.size w w := Below.refl _ _
    have T0 := hT
    go_wp2_with fail
    refine (refRight3_e _ false Ha _ (by omega)).mono ?_
    rintro e w' ⟨rfl, rfl⟩
    go_wp2_with fail
    refine (examples3_any _ T0).mono ?_
    rintro e w1 ⟨rfl, b1⟩
    have B1 := B0.trans (b1.mono B0.size)
    have T1 := T0.below (Nat.le_refl _) b1
    clear B0 b1 T0
    go_wp2_with fail
    go_ret
    exact ⟨rfl, B1⟩

end Go.Proofs.YtifcmnjaplmeiaaDoor.D
