/-
  DERIVED. The walk of the law TravelArrives.
-/
import Derived.Test.YtecegfjllncfmaaDoorTravLaw
namespace Go.Proofs.YtecegfjllncfmaaDoor.T
open Go.RowKit
set_option maxRecDepth 8000

theorem travelArrives_long (n c : Nat) (oa : Option Addr) (t a : Int) (h : 40 < n) (w : World) :
    Calls Tryd.prog 4 #[.slice oa n c, .int .i64 t, .int .i64 a] w fun e w' => e = .returned (.bool true) ∧ Below w.heap.size w w' := by
  have KW := Lib.hid awake_n
  have hI : (40 : Int) < (n : Int) := by omega
  go_enter Tryd.func4, Tryd.ntmps4
  go_wp2_with fail
  refine (KW.out _).mono ?_
  rintro e w1 ⟨rfl, b1⟩
  go_wp2_with fail
  go_ret
  exact ⟨rfl, b1⟩
set_option maxHeartbeats 800000 in
theorem travelArrives_walk (u : Value) (l : List (Int × Int)) (t a : Int) (w : World) (hu : Ps w u l) :
    Calls Tryd.prog 4 #[u, .int .i64 t, .int .i64 a] w fun e w' => e = .returned (.bool true) ∧ Below w.heap.size w w' := by
  by_cases h : l.length ≤ 40
  · have K1 := Lib.hid (fun w hu => latest_n u l a w hu (by omega))
    have K2 := Lib.hid (fun w hu => refLatest_n u l a (by omega) w hu)
    have K3 := Lib.hid (fun w hu => arrive_n u l t w hu (by omega))
    have K4 := Lib.hid (fun w hu => refArrive_n u l t (by omega) w hu)
    have HU := Lib.hid hu
    have KW := Lib.hid awake_n
    obtain ⟨oa, c, rfl, -⟩ := hu
    have hI : ¬ (40 : Int) < (l.length : Int) := by omega
    generalize cntF l a = m at *
    generalize arrF l t = q at *
    unfold LtP at K1 K2
    generalize latN m = x at *
    generalize latB m = y at *
    generalize l.length = n at *
    have hq : (q == q) = true := by simp
    have hx : (x == x) = true := by simp
    have hy : (y == y) = true := by simp
    go_enter Tryd.func4, Tryd.ntmps4
    go_wp2_with fail
    refine (K1.out _ HU.out).mono ?_
    rintro e w1 ⟨rfl, b1⟩
    have HU1 := Lib.hid (HU.out.below b1)
    have B1 := Lib.hid b1
    clear b1 HU
    go_wp2_with fail
    refine (K2.out _ HU1.out).mono ?_
    rintro e w2 ⟨rfl, b2⟩
    have HU2 := Lib.hid (HU1.out.below b2)
    have B2 := Lib.hid (over B1.out b2)
    clear b2 HU1 B1
    go_wp2_with fail
    refine (K3.out _ HU2.out).mono ?_
    rintro e w3 ⟨rfl, b3⟩
    have HU3 := Lib.hid (HU2.out.below b3)
    have B3 := Lib.hid (over B2.out b3)
    clear b3 HU2 B2
    go_wp2_with fail
    refine (K4.out _ HU3.out).mono ?_
    rintro e w4 ⟨rfl, b4⟩
    have B4 := Lib.hid (over B3.out b4)
    clear b4 HU3 B3
    go_wp2_with fail
    refine (KW.out _).mono ?_
    rintro e w5 ⟨rfl, b5⟩
    have B5 := Lib.hid (over B4.out b5)
    go_wp2_with fail
    go_ret
    exact ⟨rfl, B5.out⟩
  · obtain ⟨oa, c, rfl, -⟩ := hu
    exact travelArrives_long _ _ _ _ _ (by omega) w

end Go.Proofs.YtecegfjllncfmaaDoor.T
