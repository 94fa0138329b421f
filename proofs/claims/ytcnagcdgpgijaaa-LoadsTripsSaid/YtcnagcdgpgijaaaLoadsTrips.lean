/-
  DERIVED. The walk of LoadsTrips.
-/
import Derived.Test.YtcnagcdgpgijaaaLoadLaw
namespace Go.Proofs.Ytcnagcdgpgijaaa.L
open Go.RowKit
set_option maxRecDepth 8000

theorem loadsTrips_walk (u v : Value) (a b : List Int) (hla : a.length ≤ 1000000000000000) (hlb : b.length ≤ 1000000000000000) (w : World) (hu : Li w u a) (hv : Li w v b) :
    Calls Try.prog 5 #[u, v] w fun e w' => e = .returned (.bool true) ∧ Below w.heap.size w w' := by
  have H1 := Lib.hid (within_n 1073741824 (by decide) (by decide) u a hla w hu)
  have H2 := Lib.hid (within_n 1073741824 (by decide) (by decide) v b hlb w hv)
  have H6 := Lib.hid examples_n
  cases h1 : withinB 1073741824 a
  · rw [h1] at H1
    clear h1 hu hv
    go_enter Try.func5, Try.ntmps5
    go_wp2_with fail
    refine H1.out.mono ?_
    rintro e w1 ⟨rfl, rfl⟩
    go_wp2_with fail
    refine (H6.out _).mono ?_
    rintro e w2 ⟨rfl, b2⟩
    go_wp2_with fail
    go_ret
    exact ⟨rfl, b2⟩
  · cases h2 : withinB 1073741824 b
    · rw [h1] at H1
      rw [h2] at H2
      clear h1 h2 hu hv
      go_enter Try.func5, Try.ntmps5
      go_wp2_with fail
      refine H1.out.mono ?_
      rintro e w1 ⟨rfl, rfl⟩
      go_wp2_with fail
      refine H2.out.mono ?_
      rintro e w1 ⟨rfl, rfl⟩
      go_wp2_with fail
      refine (H6.out _).mono ?_
      rintro e w2 ⟨rfl, b2⟩
      go_wp2_with fail
      go_ret
      exact ⟨rfl, b2⟩
    · rw [h1] at H1
      rw [h2] at H2
      obtain ⟨rn, re, hr⟩ : ∃ rn re, tripsR a b = (rn, re) := ⟨_, _, rfl⟩
      have K1 := Lib.hid (loadTrips_n u v a b rn re hr hla h1 h2 w hu hv)
      have K2 := Lib.hid (refTrips_n u v a b rn re hr hla h1 h2 w hu hv)
      have hn : (rn == rn) = true := by simp
      have he : (re == re) = true := by simp
      clear h1 h2 hu hv hr
      go_enter Try.func5, Try.ntmps5
      go_wp2_with fail
      refine H1.out.mono ?_
      rintro e w1 ⟨rfl, rfl⟩
      go_wp2_with fail
      refine H2.out.mono ?_
      rintro e w1 ⟨rfl, rfl⟩
      go_wp2_with fail
      refine K1.out.mono ?_
      rintro e w1 ⟨rfl, rfl⟩
      go_wp2_with fail
      refine K2.out.mono ?_
      rintro e w1 ⟨rfl, b1⟩
      have B1 := Lib.hid b1
      clear b1
      go_wp2_with fail
      refine (H6.out _).mono ?_
      rintro e w2 ⟨rfl, b2⟩
      have B2 := Lib.hid b2
      clear b2
      go_wp2_with fail
      go_ret
      exact ⟨rfl, over B1.out B2.out⟩

end Go.Proofs.Ytcnagcdgpgijaaa.L
