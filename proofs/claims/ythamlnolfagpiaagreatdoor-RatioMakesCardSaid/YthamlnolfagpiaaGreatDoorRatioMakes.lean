/-
  DERIVED. The walk of RatioMakes.
-/
import Derived.Test.YthamlnolfagpiaaGreatDoorRatioLaw
namespace Go.Proofs.YthamlnolfagpiaaGreatDoor.D
open Go.RowKit
set_option maxRecDepth 8000

set_option maxHeartbeats 1000000 in
theorem ratioMakes_walk (a b : ByteArray) (n : Int) (hn1 : -9223372036854775808 ≤ n) (hn2 : n ≤ 9223372036854775807) (w : World) (hT : Tab w) :
    Calls Tryz.prog 5 #[.string a, .string b, .int .i64 n] w fun e w' => e = .returned (.bool true) ∧ Below w.heap.size w w' := by
  by_cases ha : 300 < a.size
  · go_enter Tryz.func5, Tryz.ntmps5
    have B0 : Below w.heap.size w w := Below.refl _ _
    have T0 := hT
    go_wp2_with fail
    refine (awake_any _ T0).mono ?_
    rintro e w1 ⟨rfl, b1⟩
    have B1 := over4 B0 b1
    have T1 := T0.below (Nat.le_refl _) b1
    clear B0 b1 T0
    go_wp2_with fail
    go_ret
    exact ⟨rfl, B1⟩
  by_cases hb : 300 < b.size
  · go_enter Tryz.func5, Tryz.ntmps5
    have B0 : Below w.heap.size w w := Below.refl _ _
    have T0 := hT
    go_wp2_with fail
    refine (awake_any _ T0).mono ?_
    rintro e w1 ⟨rfl, b1⟩
    have B1 := over4 B0 b1
    have T1 := T0.below (Nat.le_refl _) b1
    clear B0 b1 T0
    go_wp2_with fail
    go_ret
    exact ⟨rfl, B1⟩
  have ha' : a.size ≤ 300 := by omega
  have hb' : b.size ≤ 300 := by omega
  obtain ⟨s, e1, h, hc⟩ := two_make a b ha' hb'
  have H1 := Lib.hid h
  have H2 : Hid (Two 34 35 #[.int .i64 n] (.string (inum n))) := ⟨fun w ht => rOf_any n hn1 hn2 w ht, fun w => of4 n hn1 hn2 w⟩
  clear h ha hb
  rcases hc with hc | ⟨rfl, hc, hsz⟩
  · go_enter Tryz.func5, Tryz.ntmps5
    have B0 : Below w.heap.size w w := Below.refl _ _
    have T0 := hT
    go_wp2_with fail
    refine (H1.out.1 _ T0).mono ?_
    rintro e w1 ⟨rfl, b1⟩
    have B1 := over4 B0 b1
    have T1 := T0.below (Nat.le_refl _) b1
    clear B0 b1 T0
    go_wp2_with fail
    refine (H1.out.2 _).mono ?_
    rintro e w2 ⟨rfl, b2⟩
    have B2 := over4 B1 b2
    have T2 := T1.below (Nat.le_refl _) b2
    clear B1 b2 T1
    go_wp2_with fail
    refine (H2.out.1 _ T2).mono ?_
    rintro e w3 ⟨rfl, b3⟩
    have B3 := over4 B2 b3
    have T3 := T2.below (Nat.le_refl _) b3
    clear B2 b3 T2
    go_wp2_with fail
    refine (H2.out.2 _).mono ?_
    rintro e w4 ⟨rfl, b4⟩
    have B4 := over4 B3 b4
    have T4 := T3.below (Nat.le_refl _) b4
    clear B3 b4 T3
    go_wp2_with fail
    refine (awake_any _ T4).mono ?_
    rintro e w5 ⟨rfl, b5⟩
    have B5 := over4 B4 b5
    have T5 := T4.below (Nat.le_refl _) b5
    clear B4 b5 T4
    go_wp2_with fail
    go_ret
    exact ⟨rfl, B5⟩
  · have H3 : Hid (∀ w : World, Tab w → Calls Tryz.prog 14 #[.string s] w fun e w' => e = .returned (.bool true) ∧ Below w.heap.size w w') := by
      intro w ht
      have := rRight_any s hsz w ht
      rwa [hc] at this
    clear hc hsz
    go_enter Tryz.func5, Tryz.ntmps5
    have B0 : Below w.heap.size w w := Below.refl _ _
    have T0 := hT
    go_wp2_with fail
    refine (H1.out.1 _ T0).mono ?_
    rintro e w1 ⟨rfl, b1⟩
    have B1 := over4 B0 b1
    have T1 := T0.below (Nat.le_refl _) b1
    clear B0 b1 T0
    go_wp2_with fail
    refine (H1.out.2 _).mono ?_
    rintro e w2 ⟨rfl, b2⟩
    have B2 := over4 B1 b2
    have T2 := T1.below (Nat.le_refl _) b2
    clear B1 b2 T1
    go_wp2_with fail
    refine (H2.out.1 _ T2).mono ?_
    rintro e w3 ⟨rfl, b3⟩
    have B3 := over4 B2 b3
    have T3 := T2.below (Nat.le_refl _) b3
    clear B2 b3 T2
    go_wp2_with fail
    refine (H2.out.2 _).mono ?_
    rintro e w4 ⟨rfl, b4⟩
    have B4 := over4 B3 b4
    have T4 := T3.below (Nat.le_refl _) b4
    clear B3 b4 T3
    go_wp2_with fail
    refine (H3.out _ T4).mono ?_
    rintro e w5 ⟨rfl, b5⟩
    have B5 := over4 B4 b5
    have T5 := T4.below (Nat.le_refl _) b5
    clear B4 b5 T4
    go_wp2_with fail
    refine (awake_any _ T5).mono ?_
    rintro e w6 ⟨rfl, b6⟩
    have B6 := over4 B5 b6
    have T6 := T5.below (Nat.le_refl _) b6
    clear B5 b6 T5
    go_wp2_with fail
    go_ret
    exact ⟨rfl, B6⟩

end Go.Proofs.YthamlnolfagpiaaGreatDoor.D

