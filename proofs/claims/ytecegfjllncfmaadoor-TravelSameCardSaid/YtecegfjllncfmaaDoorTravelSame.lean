/-
  DERIVED. The walk of the law TravelSame.
-/
import Derived.Test.YtecegfjllncfmaaDoorTravLaw
namespace Go.Proofs.YtecegfjllncfmaaDoor.T
open Go.RowKit
set_option maxRecDepth 8000

theorem travelSame_long (n n2 c c2 : Nat) (oa ob : Option Addr) (t : Int) (h : 20 < n ∨ 20 < n2) (w : World) :
    Calls Tryd.prog 8 #[.slice oa n c, .slice ob n2 c2, .int .i64 t] w fun e w' => e = .returned (.bool true) ∧ Below w.heap.size w w' := by
  have KW := Lib.hid awake_n
  by_cases h1 : 20 < n
  · have hI : (20 : Int) < (n : Int) := by omega
    go_enter Tryd.func8, Tryd.ntmps8
    go_wp2_with fail
    refine (KW.out _).mono ?_
    rintro e w1 ⟨rfl, b1⟩
    go_wp2_with fail
    go_ret
    exact ⟨rfl, b1⟩
  · have hI : ¬ (20 : Int) < (n : Int) := by omega
    have hJ : (20 : Int) < (n2 : Int) := by omega
    go_enter Tryd.func8, Tryd.ntmps8
    go_wp2_with fail
    refine (KW.out _).mono ?_
    rintro e w1 ⟨rfl, b1⟩
    go_wp2_with fail
    go_ret
    exact ⟨rfl, b1⟩
set_option maxHeartbeats 1600000 in
theorem travelSame_walk (u v : Value) (a b : List (Int × Int)) (t : Int) (w : World) (hu : Ps w u a) (hv : Ps w v b) :
    Calls Tryd.prog 8 #[u, v, .int .i64 t] w fun e w' => e = .returned (.bool true) ∧ Below w.heap.size w w' := by
  by_cases h : a.length ≤ 20 ∧ b.length ≤ 20
  · obtain ⟨h1, h2⟩ := h
    have K1 := Lib.hid (fun w hu hv => same_n u v a b w hu hv (by omega) (by omega))
    have K2 := Lib.hid (fun w hu hv => refSame_n u v a b (by omega) (by omega) w hu hv)
    have K3 := Lib.hid (fun w hv hu => same_n v u b a w hv hu (by omega) (by omega))
    rw [← sameB_symm a b] at K3
    have K4 := Lib.hid (fun w hu hu' => same_n u u a a w hu hu' (by omega) (by omega))
    rw [sameB_refl] at K4
    have K5 := Lib.hid (fun w hu => check_n u a (by omega) w hu)
    have K6 := Lib.hid (fun w hu => arrive_n u a t w hu (by omega))
    have K7 := Lib.hid (fun w hv => arrive_n v b t w hv (by omega))
    have HAT := Lib.hid (fun h h0 h1 => sameB_at (a := a) (b := b) h (t := t) h0 h1)
    have hcmp : (okB a == (((faults a).length : Int) == 0)) = true := by
      unfold okB
      by_cases e : (faults a).length = 0
      · rw [e]; rfl
      · rw [decide_eq_false e, ne_eqI (by omega)]; rfl
    have HU := Lib.hid hu
    have HV := Lib.hid hv
    have KW := Lib.hid awake_n
    obtain ⟨oa, c, rfl, -⟩ := hu
    obtain ⟨ob, c2, rfl, -⟩ := hv
    have hI : ¬ (20 : Int) < (a.length : Int) := by omega
    have hJ : ¬ (20 : Int) < (b.length : Int) := by omega
    generalize okB a = ok at *
    generalize a.length = n at *
    generalize b.length = n2 at *
    generalize hm : (faults a).length = m at *
    cases hr : sameB a b
    · rw [hr] at K1 K2 K3
      clear HAT hr
      have hk0 : (ok != ok) = false := by simp
      go_enter Tryd.func8, Tryd.ntmps8
      go_wp2_with fail
      refine (K1.out _ HU.out HV.out).mono ?_
      rintro e w1 ⟨rfl, b1⟩
      have HU1 := Lib.hid (HU.out.below b1)
      have HV1 := Lib.hid (HV.out.below b1)
      have B1 := Lib.hid b1
      clear b1 HU HV
      go_wp2_with fail
      refine (K2.out _ HU1.out HV1.out).mono ?_
      rintro e w2 ⟨rfl, b2⟩
      have HU2 := Lib.hid (HU1.out.below b2)
      have HV2 := Lib.hid (HV1.out.below b2)
      have B2 := Lib.hid (over B1.out b2)
      clear b2 HU1 HV1 B1
      go_wp2_with fail
      refine (K3.out _ HV2.out HU2.out).mono ?_
      rintro e w3 ⟨rfl, b3⟩
      have HU3 := Lib.hid (HU2.out.below b3)
      have HV3 := Lib.hid (HV2.out.below b3)
      have B3 := Lib.hid (over B2.out b3)
      clear b3 HU2 HV2 B2
      go_wp2_with fail
      refine (K4.out _ HU3.out HU3.out).mono ?_
      rintro e w4 ⟨rfl, b4⟩
      have HU4 := Lib.hid (HU3.out.below b4)
      have HV4 := Lib.hid (HV3.out.below b4)
      have B4 := Lib.hid (over B3.out b4)
      clear b4 HU3 HV3 B3
      go_wp2_with fail
      refine (K5.out _ HU4.out).mono ?_
      rintro e w5 ⟨oa5, c5, rfl, -, b5⟩
      rw [hm]
      have HU5 := Lib.hid (HU4.out.below b5)
      have HV5 := Lib.hid (HV4.out.below b5)
      have B5 := Lib.hid (over B4.out b5)
      clear b5 HU4 HV4 B4
      go_wp2_with fail
      refine (KW.out _).mono ?_
      rintro e w9 ⟨rfl, b9⟩
      have B9 := Lib.hid (over B5.out b9)
      go_wp2_with fail
      go_ret
      exact ⟨rfl, B9.out⟩
    · rw [hr] at K1 K2 K3
      have HAT := Lib.hid (HAT.out hr)
      clear hr
      have hk0 : (ok != ok) = false := by simp
      by_cases t0 : t < 0
      · clear HAT
        go_enter Tryd.func8, Tryd.ntmps8
        go_wp2_with fail
        refine (K1.out _ HU.out HV.out).mono ?_
        rintro e w1 ⟨rfl, b1⟩
        have HU1 := Lib.hid (HU.out.below b1)
        have HV1 := Lib.hid (HV.out.below b1)
        have B1 := Lib.hid b1
        clear b1 HU HV
        go_wp2_with fail
        refine (K2.out _ HU1.out HV1.out).mono ?_
        rintro e w2 ⟨rfl, b2⟩
        have HU2 := Lib.hid (HU1.out.below b2)
        have HV2 := Lib.hid (HV1.out.below b2)
        have B2 := Lib.hid (over B1.out b2)
        clear b2 HU1 HV1 B1
        go_wp2_with fail
        refine (K3.out _ HV2.out HU2.out).mono ?_
        rintro e w3 ⟨rfl, b3⟩
        have HU3 := Lib.hid (HU2.out.below b3)
        have HV3 := Lib.hid (HV2.out.below b3)
        have B3 := Lib.hid (over B2.out b3)
        clear b3 HU2 HV2 B2
        go_wp2_with fail
        refine (K4.out _ HU3.out HU3.out).mono ?_
        rintro e w4 ⟨rfl, b4⟩
        have HU4 := Lib.hid (HU3.out.below b4)
        have HV4 := Lib.hid (HV3.out.below b4)
        have B4 := Lib.hid (over B3.out b4)
        clear b4 HU3 HV3 B3
        go_wp2_with fail
        refine (K5.out _ HU4.out).mono ?_
        rintro e w5 ⟨oa5, c5, rfl, -, b5⟩
        rw [hm]
        have HU5 := Lib.hid (HU4.out.below b5)
        have HV5 := Lib.hid (HV4.out.below b5)
        have B5 := Lib.hid (over B4.out b5)
        clear b5 HU4 HV4 B4
        go_wp2_with fail
        refine (KW.out _).mono ?_
        rintro e w9 ⟨rfl, b9⟩
        have B9 := Lib.hid (over B5.out b9)
        go_wp2_with fail
        go_ret
        exact ⟨rfl, B9.out⟩
      · by_cases t1 : 4096 < t
        · clear HAT
          go_enter Tryd.func8, Tryd.ntmps8
          go_wp2_with fail
          refine (K1.out _ HU.out HV.out).mono ?_
          rintro e w1 ⟨rfl, b1⟩
          have HU1 := Lib.hid (HU.out.below b1)
          have HV1 := Lib.hid (HV.out.below b1)
          have B1 := Lib.hid b1
          clear b1 HU HV
          go_wp2_with fail
          refine (K2.out _ HU1.out HV1.out).mono ?_
          rintro e w2 ⟨rfl, b2⟩
          have HU2 := Lib.hid (HU1.out.below b2)
          have HV2 := Lib.hid (HV1.out.below b2)
          have B2 := Lib.hid (over B1.out b2)
          clear b2 HU1 HV1 B1
          go_wp2_with fail
          refine (K3.out _ HV2.out HU2.out).mono ?_
          rintro e w3 ⟨rfl, b3⟩
          have HU3 := Lib.hid (HU2.out.below b3)
          have HV3 := Lib.hid (HV2.out.below b3)
          have B3 := Lib.hid (over B2.out b3)
          clear b3 HU2 HV2 B2
          go_wp2_with fail
          refine (K4.out _ HU3.out HU3.out).mono ?_
          rintro e w4 ⟨rfl, b4⟩
          have HU4 := Lib.hid (HU3.out.below b4)
          have HV4 := Lib.hid (HV3.out.below b4)
          have B4 := Lib.hid (over B3.out b4)
          clear b4 HU3 HV3 B3
          go_wp2_with fail
          refine (K5.out _ HU4.out).mono ?_
          rintro e w5 ⟨oa5, c5, rfl, -, b5⟩
          rw [hm]
          have HU5 := Lib.hid (HU4.out.below b5)
          have HV5 := Lib.hid (HV4.out.below b5)
          have B5 := Lib.hid (over B4.out b5)
          clear b5 HU4 HV4 B4
          go_wp2_with fail
          refine (KW.out _).mono ?_
          rintro e w9 ⟨rfl, b9⟩
          have B9 := Lib.hid (over B5.out b9)
          go_wp2_with fail
          go_ret
          exact ⟨rfl, B9.out⟩
        · have HQ := Lib.hid (HAT.out (by omega) (by omega))
          rw [HQ.out] at K6
          generalize arrF b t = q at *
          clear HAT HQ
          have hq : (q == q) = true := by simp
          go_enter Tryd.func8, Tryd.ntmps8
          go_wp2_with fail
          refine (K1.out _ HU.out HV.out).mono ?_
          rintro e w1 ⟨rfl, b1⟩
          have HU1 := Lib.hid (HU.out.below b1)
          have HV1 := Lib.hid (HV.out.below b1)
          have B1 := Lib.hid b1
          clear b1 HU HV
          go_wp2_with fail
          refine (K2.out _ HU1.out HV1.out).mono ?_
          rintro e w2 ⟨rfl, b2⟩
          have HU2 := Lib.hid (HU1.out.below b2)
          have HV2 := Lib.hid (HV1.out.below b2)
          have B2 := Lib.hid (over B1.out b2)
          clear b2 HU1 HV1 B1
          go_wp2_with fail
          refine (K3.out _ HV2.out HU2.out).mono ?_
          rintro e w3 ⟨rfl, b3⟩
          have HU3 := Lib.hid (HU2.out.below b3)
          have HV3 := Lib.hid (HV2.out.below b3)
          have B3 := Lib.hid (over B2.out b3)
          clear b3 HU2 HV2 B2
          go_wp2_with fail
          refine (K4.out _ HU3.out HU3.out).mono ?_
          rintro e w4 ⟨rfl, b4⟩
          have HU4 := Lib.hid (HU3.out.below b4)
          have HV4 := Lib.hid (HV3.out.below b4)
          have B4 := Lib.hid (over B3.out b4)
          clear b4 HU3 HV3 B3
          go_wp2_with fail
          refine (K5.out _ HU4.out).mono ?_
          rintro e w5 ⟨oa5, c5, rfl, -, b5⟩
          rw [hm]
          have HU5 := Lib.hid (HU4.out.below b5)
          have HV5 := Lib.hid (HV4.out.below b5)
          have B5 := Lib.hid (over B4.out b5)
          clear b5 HU4 HV4 B4
          go_wp2_with fail
          refine (K6.out _ HU5.out).mono ?_
          rintro e w6 ⟨rfl, b6⟩
          have HV6 := Lib.hid (HV5.out.below b6)
          have B6 := Lib.hid (over B5.out b6)
          clear b6
          go_wp2_with fail
          refine (K7.out _ HV6.out).mono ?_
          rintro e w7 ⟨rfl, b7⟩
          have B5 := Lib.hid (over B6.out b7)
          clear b7
          go_wp2_with fail
          refine (KW.out _).mono ?_
          rintro e w9 ⟨rfl, b9⟩
          have B9 := Lib.hid (over B5.out b9)
          go_wp2_with fail
          go_ret
          exact ⟨rfl, B9.out⟩
  · obtain ⟨oa, c, rfl, -⟩ := hu
    obtain ⟨ob, c2, rfl, -⟩ := hv
    exact travelSame_long _ _ _ _ _ _ _ (by omega) w

end Go.Proofs.YtecegfjllncfmaaDoor.T
