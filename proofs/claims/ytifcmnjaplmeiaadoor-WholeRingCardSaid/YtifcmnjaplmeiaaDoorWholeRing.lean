/-
  DERIVED. The walk of WholeRing.
-/
import Derived.Test.YtifcmnjaplmeiaaDoorWholeLaw
namespace Go.Proofs.YtifcmnjaplmeiaaDoor.D
open Go.RowKit

set_option maxRecDepth 100000 in
set_option maxHeartbeats 4000000 in
theorem wholeRing_walk (a b c : ByteArray) (w : World) (hT : Tab w) :
    Calls Tryd.prog 8 #[.string a, .string b, .string c] w fun e w' => e = .returned (.bool true) ∧ Below w.heap.size w w' := by
  by_cases ha : 40 < a.size
  · go_enter Tryd.func8, Tryd.ntmps8
    have B0 : Below w.heap.size w w := Below.refl _ _
    have T0 := hT
    go_wp2_with fail
    refine (examples3_any _ T0).mono ?_
    rintro e w1 ⟨rfl, b1⟩
    have B1 := B0.trans (b1.mono B0.size)
    have T1 := T0.below (Nat.le_refl _) b1
    clear B0 b1 T0
    go_wp2_with fail
    go_ret
    exact ⟨rfl, B1⟩
  by_cases hb : 40 < b.size
  · go_enter Tryd.func8, Tryd.ntmps8
    have B0 : Below w.heap.size w w := Below.refl _ _
    have T0 := hT
    go_wp2_with fail
    refine (examples3_any _ T0).mono ?_
    rintro e w1 ⟨rfl, b1⟩
    have B1 := B0.trans (b1.mono B0.size)
    have T1 := T0.below (Nat.le_refl _) b1
    clear B0 b1 T0
    go_wp2_with fail
    go_ret
    exact ⟨rfl, B1⟩
  by_cases hc : 40 < c.size
  · go_enter Tryd.func8, Tryd.ntmps8
    have B0 : Below w.heap.size w w := Below.refl _ _
    have T0 := hT
    go_wp2_with fail
    refine (examples3_any _ T0).mono ?_
    rintro e w1 ⟨rfl, b1⟩
    have B1 := B0.trans (b1.mono B0.size)
    have T1 := T0.below (Nat.le_refl _) b1
    clear B0 b1 T0
    go_wp2_with fail
    go_ret
    exact ⟨rfl, B1⟩
  have sa : a.size ≤ 40 := by omega
  have sb : b.size ≤ 40 := by omega
  have sc : c.size ≤ 40 := by omega
  clear ha hb hc
  by_cases ra : rightI a.data.toList = true
  · obtain ⟨x, rfl⟩ := rightI_str a ra
    clear ra
    have na := nd_sz sa
    by_cases rb : rightI b.data.toList = true
    · obtain ⟨y, rfl⟩ := rightI_str b rb
      clear rb
      have nb := nd_sz sb
      by_cases rc : rightI c.data.toList = true
      · obtain ⟨z, rfl⟩ := rightI_str c rc
        clear rc
        have nc := nd_sz sc
        obtain ⟨s1, hs1⟩ : ∃ k, x + y = k := ⟨_, rfl⟩
        have ns1 := nda_add hs1 na nb
        obtain ⟨s2, hs2⟩ : ∃ k, y + z = k := ⟨_, rfl⟩
        have ns2 := nda_add hs2 nb nc
        obtain ⟨s3, hs3⟩ : ∃ k, s1 + z = k := ⟨_, rfl⟩
        have nc1 : nd z.natAbs ≤ 41 := by omega
        have ns3 := nda_add hs3 ns1 nc1
        obtain ⟨p, hp⟩ : ∃ k, x * y = k := ⟨_, rfl⟩
        have np := nda_mul hp na nb
        obtain ⟨r, hr⟩ : ∃ k, y * z = k := ⟨_, rfl⟩
        have nr := nda_mul hr nb nc
        obtain ⟨u, hu⟩ : ∃ k, x * z = k := ⟨_, rfl⟩
        have nu := nda_mul hu na nc
        obtain ⟨t1, ht1⟩ : ∃ k, p * z = k := ⟨_, rfl⟩
        have nt1 := nda_mul ht1 np nc
        obtain ⟨t2, ht2⟩ : ∃ k, p + u = k := ⟨_, rfl⟩
        have nt2 := nda_add ht2 np nu
        have E1 : Hid (x + y = s1) := Lib.hid (hs1)
        have E2 : Hid (y + x = s1) := Lib.hid (by rw [Int.add_comm]; exact hs1)
        have E3 : Hid (y + z = s2) := Lib.hid (hs2)
        have E4 : Hid (s1 + z = s3) := Lib.hid (hs3)
        have E5 : Hid (x + s2 = s3) := Lib.hid (by omega)
        have E6 : Hid (s1 - y = x) := Lib.hid (by omega)
        have E7 : Hid (x * y = p) := Lib.hid (hp)
        have E8 : Hid (y * x = p) := Lib.hid (by rw [Int.mul_comm]; exact hp)
        have E9 : Hid (y * z = r) := Lib.hid (hr)
        have E10 : Hid (p * z = t1) := Lib.hid (ht1)
        have E11 : Hid (x * r = t1) := Lib.hid (by rw [← hr, ← ht1, ← hp, Int.mul_assoc])
        have E12 : Hid (x * z = u) := Lib.hid (hu)
        have E13 : Hid (x * s2 = t2) := Lib.hid (by rw [← hs2, Int.mul_add, hp, hu, ht2])
        have E14 : Hid (p + u = t2) := Lib.hid (ht2)
        clear hs1 hs2 hs3 hp hr hu ht1 ht2
        go_enter Tryd.func8, Tryd.ntmps8
        have B0 : Below w.heap.size w w := Below.refl _ _
        have T0 := hT
        go_wp2_with fail
        refine (refRight3_e _ true (right_inum x) _ (by omega)).mono ?_
        rintro e w' ⟨rfl, rfl⟩
        go_wp2_with fail
        refine (refRight3_e _ true (right_inum y) _ (by omega)).mono ?_
        rintro e w' ⟨rfl, rfl⟩
        go_wp2_with fail
        refine (refRight3_e _ true (right_inum z) _ (by omega)).mono ?_
        rintro e w' ⟨rfl, rfl⟩
        go_wp2_with fail
        refine (wAdd_num x y s1 E1 (by omega) (by omega) (by omega) _ T0).mono ?_
        rintro e w1 ⟨rfl, b1⟩
        have B1 := B0.trans (b1.mono B0.size)
        have T1 := T0.below (Nat.le_refl _) b1
        clear B0 b1 T0
        go_wp2_with fail
        refine (wAdd_num y x s1 E2 (by omega) (by omega) (by omega) _ T1).mono ?_
        rintro e w2 ⟨rfl, b2⟩
        have B2 := B1.trans (b2.mono B1.size)
        have T2 := T1.below (Nat.le_refl _) b2
        clear B1 b2 T1
        go_wp2_with fail
        refine (wAdd_num y z s2 E3 (by omega) (by omega) (by omega) _ T2).mono ?_
        rintro e w3 ⟨rfl, b3⟩
        have B3 := B2.trans (b3.mono B2.size)
        have T3 := T2.below (Nat.le_refl _) b3
        clear B2 b3 T2
        go_wp2_with fail
        refine (wAdd_num s1 z s3 E4 (by omega) (by omega) (by omega) _ T3).mono ?_
        rintro e w4 ⟨rfl, b4⟩
        have B4 := B3.trans (b4.mono B3.size)
        have T4 := T3.below (Nat.le_refl _) b4
        clear B3 b4 T3
        go_wp2_with fail
        refine (wAdd_num x s2 s3 E5 (by omega) (by omega) (by omega) _ T4).mono ?_
        rintro e w5 ⟨rfl, b5⟩
        have B5 := B4.trans (b5.mono B4.size)
        have T5 := T4.below (Nat.le_refl _) b5
        clear B4 b5 T4
        go_wp2_with fail
        refine (wSub_num s1 y x E6 (by omega) (by omega) (by omega) _ T5).mono ?_
        rintro e w6 ⟨rfl, b6⟩
        have B6 := B5.trans (b6.mono B5.size)
        have T6 := T5.below (Nat.le_refl _) b6
        clear B5 b6 T5
        go_wp2_with fail
        refine (wMul_num x y p E7 (by omega) (by omega) (by omega) _ T6).mono ?_
        rintro e w7 ⟨rfl, b7⟩
        have B7 := B6.trans (b7.mono B6.size)
        have T7 := T6.below (Nat.le_refl _) b7
        clear B6 b7 T6
        go_wp2_with fail
        refine (wMul_num y x p E8 (by omega) (by omega) (by omega) _ T7).mono ?_
        rintro e w8 ⟨rfl, b8⟩
        have B8 := B7.trans (b8.mono B7.size)
        have T8 := T7.below (Nat.le_refl _) b8
        clear B7 b8 T7
        go_wp2_with fail
        refine (wMul_num y z r E9 (by omega) (by omega) (by omega) _ T8).mono ?_
        rintro e w9 ⟨rfl, b9⟩
        have B9 := B8.trans (b9.mono B8.size)
        have T9 := T8.below (Nat.le_refl _) b9
        clear B8 b9 T8
        go_wp2_with fail
        refine (wMul_num p z t1 E10 (by omega) (by omega) (by omega) _ T9).mono ?_
        rintro e w10 ⟨rfl, b10⟩
        have B10 := B9.trans (b10.mono B9.size)
        have T10 := T9.below (Nat.le_refl _) b10
        clear B9 b10 T9
        go_wp2_with fail
        refine (wMul_num x r t1 E11 (by omega) (by omega) (by omega) _ T10).mono ?_
        rintro e w11 ⟨rfl, b11⟩
        have B11 := B10.trans (b11.mono B10.size)
        have T11 := T10.below (Nat.le_refl _) b11
        clear B10 b11 T10
        go_wp2_with fail
        refine (wMul_num x z u E12 (by omega) (by omega) (by omega) _ T11).mono ?_
        rintro e w12 ⟨rfl, b12⟩
        have B12 := B11.trans (b12.mono B11.size)
        have T12 := T11.below (Nat.le_refl _) b12
        clear B11 b12 T11
        go_wp2_with fail
        refine (wMul_num x s2 t2 E13 (by omega) (by omega) (by omega) _ T12).mono ?_
        rintro e w13 ⟨rfl, b13⟩
        have B13 := B12.trans (b13.mono B12.size)
        have T13 := T12.below (Nat.le_refl _) b13
        clear B12 b13 T12
        go_wp2_with fail
        refine (wAdd_num p u t2 E14 (by omega) (by omega) (by omega) _ T13).mono ?_
        rintro e w14 ⟨rfl, b14⟩
        have B14 := B13.trans (b14.mono B13.size)
        have T14 := T13.below (Nat.le_refl _) b14
        clear B13 b14 T13
        go_wp2_with fail
        refine (examples3_any _ T14).mono ?_
        rintro e w15 ⟨rfl, b15⟩
        have B15 := B14.trans (b15.mono B14.size)
        have T15 := T14.below (Nat.le_refl _) b15
        clear B14 b15 T14
        go_wp2_with fail
        go_ret
        exact ⟨rfl, B15⟩
      · have Hc : Hid (rightI c.data.toList = false) := Lib.hid (by simpa using rc)
        clear rc
        go_enter Tryd.func8, Tryd.ntmps8
        have B0 : Below w.heap.size w w := Below.refl _ _
        have T0 := hT
        go_wp2_with fail
        refine (refRight3_e _ true (right_inum x) _ (by omega)).mono ?_
        rintro e w' ⟨rfl, rfl⟩
        go_wp2_with fail
        refine (refRight3_e _ true (right_inum y) _ (by omega)).mono ?_
        rintro e w' ⟨rfl, rfl⟩
        go_wp2_with fail
        refine (refRight3_e _ false Hc _ (by omega)).mono ?_
        rintro e w' ⟨rfl, rfl⟩
        go_wp2_with fail
        refine (examples3_any _ T0).mono ?_
        rintro e w1 ⟨rfl, b1⟩
        have B1 := B0.trans (b1.mono B0.size)
        have T1 := T0.below (Nat.le_refl _) b1
        clear B0 b1 T0
        go_wp2_with fail
        go_ret
        exact ⟨rfl, B1⟩
    · have Hb : Hid (rightI b.data.toList = false) := Lib.hid (by simpa using rb)
      clear rb
      go_enter Tryd.func8, Tryd.ntmps8
      have B0 : Below w.heap.size w w := Below.refl _ _
      have T0 := hT
      go_wp2_with fail
      refine (refRight3_e _ true (right_inum x) _ (by omega)).mono ?_
      rintro e w' ⟨rfl, rfl⟩
      go_wp2_with fail
      refine (refRight3_e _ false Hb _ (by omega)).mono ?_
      rintro e w' ⟨rfl, rfl⟩
      go_wp2_with fail
      refine (examples3_any _ T0).mono ?_
      rintro e w1 ⟨rfl, b1⟩
      have B1 := B0.trans (b1.mono B0.size)
      have T1 := T0.below (Nat.le_refl _) b1
      clear B0 b1 T0
      go_wp2_with fail
      go_ret
      exact ⟨rfl, B1⟩
  · have Ha : Hid (rightI a.data.toList = false) := Lib.hid (by simpa using ra)
    clear ra
    go_enter Tryd.func8, Tryd.ntmps8
    have B0 : Below w.heap.size w w := Below.refl _ _
    have T0 := hT
    go_wp2_with fail
    refine (refRight3_e _ false Ha _ (by omega)).mono ?_
    rintro e w' ⟨rfl, rfl⟩
    go_wp2_with fail
    refine (examples3_any _ T0).mono ?_
    rintro e w1 ⟨rfl, b1⟩
    have B1 := B0.trans (b1.mono B0.size)
    have T1 := T0.below (Nat.le_refl _) b1
    clear B0 b1 T0
    go_wp2_with fail
    go_ret
    exact ⟨rfl, B1⟩

end Go.Proofs.YtifcmnjaplmeiaaDoor.D
