/-
  DERIVED. The walk of layer 3's examples, and contracts in the forms that the laws want.
-/
import Derived.Test.YtifcmnjaplmeiaaDoorWholeIf
namespace Go.Proofs.YtifcmnjaplmeiaaDoor.D
open Go.RowKit

theorem nd_one {u : Nat} (h : u < 10) : nd u ≤ 1 := nd_le u 0 (by omega)
theorem nd_small {z : Int} (h : z.natAbs < 10000) : nd z.natAbs ≤ 4096 := Nat.le_trans (nd_le _ 3 (by omega)) (by omega)
theorem i3 : (⟨#[51]⟩ : ByteArray) = inum 3 := lit_pos [51] 3 (by decide) (by decide)
theorem i5 : (⟨#[53]⟩ : ByteArray) = inum 5 := lit_pos [53] 5 (by decide) (by decide)
theorem i2 : (⟨#[50]⟩ : ByteArray) = inum 2 := lit_pos [50] 2 (by decide) (by decide)
theorem i1 : (⟨#[49]⟩ : ByteArray) = inum 1 := lit_pos [49] 1 (by decide) (by decide)
theorem i7 : (⟨#[55]⟩ : ByteArray) = inum 7 := lit_pos [55] 7 (by decide) (by decide)
theorem i0' : (⟨#[48]⟩ : ByteArray) = inum 0 := lit_pos [48] 0 (by decide) (by decide)
theorem im1 : (⟨#[45, 49]⟩ : ByteArray) = inum (-1) := lit_neg [49] 1 (by decide) (by decide) (by decide)
theorem im2 : (⟨#[45, 50]⟩ : ByteArray) = inum (-2) := lit_neg [50] 2 (by decide) (by decide) (by decide)
theorem im4 : (⟨#[45, 52]⟩ : ByteArray) = inum (-4) := lit_neg [52] 4 (by decide) (by decide) (by decide)
theorem im7 : (⟨#[45, 55]⟩ : ByteArray) = inum (-7) := lit_neg [55] 7 (by decide) (by decide) (by decide)
theorem im12 : (⟨#[45, 49, 50]⟩ : ByteArray) = inum (-12) := lit_neg [49, 50] 12 (by decide) (by decide) (by decide)
theorem ibig : (⟨#[57, 50, 50, 51, 51, 55, 50, 48, 51, 54, 56, 53, 52, 55, 55, 53, 56, 48, 56]⟩ : ByteArray) = inum 9223372036854775808 :=
  lit_pos [57, 50, 50, 51, 51, 55, 50, 48, 51, 54, 56, 53, 52, 55, 55, 53, 56, 48, 56] 9223372036854775808 (by decide) (by decide)

theorem ex_sub (w : World) (ht : Tab w) : Calls Tryd.prog 24 #[.string ⟨#[51]⟩, .string ⟨#[53]⟩] w fun e w' => e = .returned (.tuple #[.string ⟨#[45, 50]⟩, .int .i64 0]) ∧ Below w.heap.size w w' := by
  rw [i3, i5, im2]
  exact wSub_num 3 5 (-2) (Lib.hid (by decide)) (nd_small (by decide)) (nd_small (by decide)) (nd_small (by decide)) w ht
theorem ex_div1 (w : World) (ht : Tab w) : Calls Tryd.prog 32 #[.string ⟨#[45, 55]⟩, .string ⟨#[50]⟩] w fun e w' => e = .returned (.tuple #[.string ⟨#[45, 52]⟩, .string ⟨#[49]⟩, .int .i64 0]) ∧ Below w.heap.size w w' := by
  rw [im7, i2, im4, i1]
  exact wDiv_num (-7) 2 (-4) 1 (by decide) (Lib.hid (by decide)) (Lib.hid (by decide)) (nd_small (by decide)) (nd_small (by decide)) w ht
theorem ex_div2 (w : World) (ht : Tab w) : Calls Tryd.prog 32 #[.string ⟨#[55]⟩, .string ⟨#[45, 50]⟩] w fun e w' => e = .returned (.tuple #[.string ⟨#[45, 52]⟩, .string ⟨#[45, 49]⟩, .int .i64 0]) ∧ Below w.heap.size w w' := by
  rw [i7, im2, im4, im1]
  exact wDiv_num 7 (-2) (-4) (-1) (by decide) (Lib.hid (by decide)) (Lib.hid (by decide)) (nd_small (by decide)) (nd_small (by decide)) w ht
theorem ex_int (w : World) (ht : Tab w) : Calls Tryd.prog 12 #[.string ⟨#[57, 50, 50, 51, 51, 55, 50, 48, 51, 54, 56, 53, 52, 55, 55, 53, 56, 48, 56]⟩] w fun e w' => e = .returned (.tuple #[.int .i64 0, .int .i64 4]) ∧ Below w.heap.size w w' := by
  rw [ibig]
  have := wInt_num 9223372036854775808 (nd_le _ 18 (by decide)) w ht
  rwa [intV_out (by omega), intE_out (by omega)] at this
theorem ex_neg (w : World) (ht : Tab w) : Calls Tryd.prog 26 #[.string ⟨#[48]⟩] w fun e w' => e = .returned (.tuple #[.string ⟨#[48]⟩, .int .i64 0]) ∧ Below w.heap.size w w' := by
  rw [i0']
  exact wNeg_num 0 (nd_small (by decide)) w ht
theorem ex_zero (w : World) (ht : Tab w) : Calls Tryd.prog 32 #[.string ⟨#[49]⟩, .string ⟨#[48]⟩] w fun e w' => e = .returned (.tuple #[.string ⟨#[]⟩, .string ⟨#[]⟩, .int .i64 10]) ∧ Below w.heap.size w w' := by
  rw [i1]
  exact wDiv_zero 1 (nd_small (by decide)) w ht
theorem ex_of (w : World) (ht : Tab w) : Calls Tryd.prog 16 #[.int .i64 (-12)] w fun e w' => e = .returned (.string ⟨#[45, 49, 50]⟩) ∧ Below w.heap.size w w' := by
  rw [im12]
  exact wOf_any (-12) (by omega) (by omega) w ht
theorem ex_right (w : World) (ht : Tab w) : Calls Tryd.prog 14 #[.string ⟨#[45, 48]⟩] w fun e w' => e = .returned (.bool false) ∧ Below w.heap.size w w' := wRight_any _ (by decide) w ht

set_option maxHeartbeats 400000 in
theorem examples3_any (w : World) (hT : Tab w) :
    Calls Tryd.prog 11 #[] w fun e w' => e = .returned (.bool true) ∧ Below w.heap.size w w' := by
  go_enter Tryd.func11, Tryd.ntmps11
  have B0 : Below w.heap.size w w := Below.refl _ _
  have T0 := hT
  go_wp2_with fail
  refine (ex_sub _ T0).mono ?_
  rintro e w1 ⟨rfl, b1⟩
  have B1 := B0.trans (b1.mono B0.size)
  have T1 := T0.below (Nat.le_refl _) b1
  clear B0 b1 T0
  go_wp2_with fail
  refine (ex_div1 _ T1).mono ?_
  rintro e w2 ⟨rfl, b2⟩
  have B2 := B1.trans (b2.mono B1.size)
  have T2 := T1.below (Nat.le_refl _) b2
  clear B1 b2 T1
  go_wp2_with fail
  refine (ex_div2 _ T2).mono ?_
  rintro e w3 ⟨rfl, b3⟩
  have B3 := B2.trans (b3.mono B2.size)
  have T3 := T2.below (Nat.le_refl _) b3
  clear B2 b3 T2
  go_wp2_with fail
  refine (ex_int _ T3).mono ?_
  rintro e w4 ⟨rfl, b4⟩
  have B4 := B3.trans (b4.mono B3.size)
  have T4 := T3.below (Nat.le_refl _) b4
  clear B3 b4 T3
  go_wp2_with fail
  refine (ex_neg _ T4).mono ?_
  rintro e w5 ⟨rfl, b5⟩
  have B5 := B4.trans (b5.mono B4.size)
  have T5 := T4.below (Nat.le_refl _) b5
  clear B4 b5 T4
  go_wp2_with fail
  refine (ex_zero _ T5).mono ?_
  rintro e w6 ⟨rfl, b6⟩
  have B6 := B5.trans (b6.mono B5.size)
  have T6 := T5.below (Nat.le_refl _) b6
  clear B5 b6 T5
  go_wp2_with fail
  refine (ex_of _ T6).mono ?_
  rintro e w7 ⟨rfl, b7⟩
  have B7 := B6.trans (b7.mono B6.size)
  have T7 := T6.below (Nat.le_refl _) b7
  clear B6 b7 T6
  go_wp2_with fail
  refine (ex_right _ T7).mono ?_
  rintro e w8 ⟨rfl, b8⟩
  have B8 := B7.trans (b8.mono B7.size)
  have T8 := T7.below (Nat.le_refl _) b8
  clear B7 b8 T7
  go_wp2_with fail
  go_ret
  exact ⟨rfl, B8⟩

/-! ### forms -/
theorem wInt_in (z : Int) (h1 : -9223372036854775808 ≤ z) (h2 : z ≤ 9223372036854775807) (w : World) (ht : Tab w) :
    Calls Tryd.prog 12 #[.string (inum z)] w fun e w' => e = .returned (.tuple #[.int .i64 z, .int .i64 0]) ∧ Below w.heap.size w w' := by
  have := wInt_num z (nd_le _ 18 (by omega)) w ht
  rwa [intV_in h1 h2, intE_in h1 h2] at this
theorem wCompare_c (x y c : Int) (hc : Hid (cmpI x y = c)) (ha : (inum x).size ≤ 100000) (hb : (inum y).size ≤ 100000) (w : World) (ht : Tab w) :
    Calls Tryd.prog 20 #[.string (inum x), .string (inum y)] w fun e w' => e = .returned (.int .i64 c) ∧ Below w.heap.size w w' := by
  have := wCompare_num x y ha hb w ht
  rwa [hc.out] at this
theorem wSign_c (x c : Int) (hc : Hid (sgnI x = c)) (ha : (inum x).size ≤ 100000) (w : World) (ht : Tab w) :
    Calls Tryd.prog 18 #[.string (inum x)] w fun e w' => e = .returned (.int .i64 c) ∧ Below w.heap.size w w' := by
  have := wSign_num x ha w ht
  rwa [hc.out] at this
theorem wRight_e (s : ByteArray) (b : Bool) (hb : Hid (rightI s.data.toList = b)) (hs : s.size ≤ 100000) (w : World) (ht : Tab w) :
    Calls Tryd.prog 14 #[.string s] w fun e w' => e = .returned (.bool b) ∧ Below w.heap.size w w' := by
  have := wRight_any s hs w ht
  rwa [hb.out] at this
theorem refAdd3_z (x y z : Int) (hz : Hid (x + y = z)) (w : World) (ha : (inum x).size ≤ 4096) (hb : (inum y).size ≤ 4096) (h : (inum z).size ≤ 4096) :
    Calls Tryd.prog 23 #[.string (inum x), .string (inum y)] w fun e w' => e = .returned (.tuple #[.string (inum z), .int .i64 0]) ∧ Below w.heap.size w w' := by
  have := refAdd3_num x y w ha hb (by rw [hz.out]; exact h)
  rwa [hz.out] at this
theorem refSub3_z (x y z : Int) (hz : Hid (x - y = z)) (w : World) (ha : (inum x).size ≤ 4096) (hb : (inum y).size ≤ 4096) (h : (inum z).size ≤ 4096) :
    Calls Tryd.prog 25 #[.string (inum x), .string (inum y)] w fun e w' => e = .returned (.tuple #[.string (inum z), .int .i64 0]) ∧ Below w.heap.size w w' := by
  have := refSub3_num x y w ha hb (by rw [hz.out]; exact h)
  rwa [hz.out] at this
theorem refMul3_z (x y z : Int) (hz : Hid (x * y = z)) (w : World) (ha : (inum x).size ≤ 4096) (hb : (inum y).size ≤ 4096) (h : (inum z).size ≤ 4096) :
    Calls Tryd.prog 31 #[.string (inum x), .string (inum y)] w fun e w' => e = .returned (.tuple #[.string (inum z), .int .i64 0]) ∧ Below w.heap.size w w' := by
  have := refMul3_num x y w ha hb (by rw [hz.out]; exact h)
  rwa [hz.out] at this
theorem refDiv3_z (x y q r : Int) (h0 : y ≠ 0) (hq : Hid (fdv x y = q)) (hr : Hid (fmd x y = r)) (w : World) (ha : (inum x).size ≤ 4096) (hb : (inum y).size ≤ 4096) :
    Calls Tryd.prog 33 #[.string (inum x), .string (inum y)] w fun e w' => e = .returned (.tuple #[.string (inum q), .string (inum r), .int .i64 0]) ∧ Below w.heap.size w w' := by
  have := refDiv3_num x y h0 w ha hb
  rwa [hq.out, hr.out] at this
theorem wDiv_zeroI (x : Int) (hx : nd x.natAbs ≤ 4096) (w : World) (ht : Tab w) :
    Calls Tryd.prog 32 #[.string (inum x), .string (inum 0)] w fun e w' => e = .returned (.tuple #[.string ⟨#[]⟩, .string ⟨#[]⟩, .int .i64 10]) ∧ Below w.heap.size w w' := by
  rw [inum_zero]; exact wDiv_zero x hx w ht
theorem fdv_abs (x y : Int) : (fdv x y).natAbs ≤ x.natAbs + 1 := by
  unfold fdv
  rw [sgn_abs]
  have := Nat.div_le_self x.natAbs y.natAbs
  split <;> omega
theorem ndq {x y q : Int} {k : Nat} (hq : fdv x y = q) (hx : nd x.natAbs ≤ k) (hk : 1 ≤ k) : nd q.natAbs ≤ k + 1 := by
  rw [← hq]
  exact Nat.le_trans (nd_mono (fdv_abs x y)) (nd_add _ _ k hx (Nat.le_trans (nd_one (by omega)) hk))
theorem ndr {x y r : Int} {k : Nat} (h0 : y ≠ 0) (hr : fmd x y = r) (hy : nd y.natAbs ≤ k) : nd r.natAbs ≤ k := by
  rw [← hr]
  exact Nat.le_trans (nd_mono (Nat.le_of_lt (fmd_lt x y h0))) hy
theorem szk {x : Int} {k : Nat} (h : nd x.natAbs ≤ k) : (inum x).size ≤ k + 1 := sz_nd h

end Go.Proofs.YtifcmnjaplmeiaaDoor.D
