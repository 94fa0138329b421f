/-
  DERIVED. The walk of the law TravelSlows.
-/
import Derived.Test.YtecegfjllncfmaaDoorTravLaw
namespace Go.Proofs.YtecegfjllncfmaaDoor.T
open Go.RowKit
set_option maxRecDepth 8000

theorem travelSlows_long (n c : Nat) (oa : Option Addr) (f n' : Int) (h : 40 < n) (w : World) :
    Calls Tryd.prog 6 #[.slice oa n c, .int .i64 f, .int .i64 n'] w fun e w' => e = .returned (.bool true) ∧ Below w.heap.size w w' := by
  have KW := Lib.hid awake_n
  have hI : (40 : Int) < (n : Int) := by omega
  go_enter Tryd.func6, Tryd.ntmps6
  go_wp2_with fail
  refine (KW.out _).mono ?_
  rintro e w1 ⟨rfl, b1⟩
  go_wp2_with fail
  go_ret
  exact ⟨rfl, b1⟩
set_option maxHeartbeats 800000 in
theorem travelSlows_walk (u : Value) (l : List (Int × Int)) (f n : Int) (w : World) (hu : Ps w u l) :
    Calls Tryd.prog 6 #[u, .int .i64 f, .int .i64 n] w fun e w' => e = .returned (.bool true) ∧ Below w.heap.size w w' := by
  by_cases h : l.length ≤ 40
  · have K1 := Lib.hid (fun w hu => slower_n u l f n w hu (by omega))
    have K2 := Lib.hid (fun w hu => refSlower_n u l f n (by omega) w hu)
    have hsl := slow_len l f n
    have hL : (slowL l f n).length ≤ 1000000 := by
      unfold slowL
      split
      · omega
      · exact Nat.zero_le _
    have K3 := Lib.hid (fun u v w hu hv => points_n u v (slowL l f n) (slowL l f n) hL w hu hv)
    rw [decide_eq_true rfl] at K3
    have HU := Lib.hid hu
    have KW := Lib.hid awake_n
    obtain ⟨oa, c, rfl, -⟩ := hu
    have hI : ¬ (40 : Int) < (l.length : Int) := by omega
    generalize slowL l f n = S at *
    generalize slowE l f n = q at *
    generalize l.length = m at *
    have hq : (q == q) = true := by simp
    go_enter Tryd.func6, Tryd.ntmps6
    go_wp2_with fail
    refine (K1.out _ HU.out).mono ?_
    rintro e w1 ⟨oa1, c1, rfl, hs1, b1⟩
    have HU1 := Lib.hid (HU.out.below b1)
    have B1 := Lib.hid b1
    have S1 := Lib.hid hs1
    clear b1 HU hs1
    go_wp2_with fail
    refine (K2.out _ HU1.out).mono ?_
    rintro e w2 ⟨oa2, c2, rfl, hs2, b2⟩
    have S1 := Lib.hid (S1.out.below b2)
    have B2 := Lib.hid (over B1.out b2)
    have S2 := Lib.hid hs2
    clear b2 HU1 B1 hs2
    go_wp2_with fail
    refine (K3.out _ _ _ S1.out S2.out).mono ?_
    rintro e w3 ⟨rfl, b3⟩
    have B3 := Lib.hid (over B2.out b3)
    clear b3 B2
    go_wp2_with fail
    refine (KW.out _).mono ?_
    rintro e w5 ⟨rfl, b5⟩
    have B5 := Lib.hid (over B3.out b5)
    go_wp2_with fail
    go_ret
    exact ⟨rfl, B5.out⟩
  · obtain ⟨oa, c, rfl, -⟩ := hu
    exact travelSlows_long _ _ _ _ _ (by omega) w

end Go.Proofs.YtecegfjllncfmaaDoor.T
