/-
  DERIVED. The walk of the law TravelWaits.
-/
import Derived.Test.YtecegfjllncfmaaDoorTravLaw
namespace Go.Proofs.YtecegfjllncfmaaDoor.T
open Go.RowKit
set_option maxRecDepth 8000

theorem travelWaits_long (n c : Nat) (oa : Option Addr) (t a : Int) (h : 40 < n) (w : World) :
    Calls Tryd.prog 5 #[.slice oa n c, .int .i64 t, .int .i64 a] w fun e w' => e = .returned (.bool true) ∧ Below w.heap.size w w' := by
  have KW := Lib.hid awake_n
  have hI : (40 : Int) < (n : Int) := by omega
  go_enter Tryd.func5, Tryd.ntmps5
  go_wp2_with fail
  refine (KW.out _).mono ?_
  rintro e w1 ⟨rfl, b1⟩
  go_wp2_with fail
  go_ret
  exact ⟨rfl, b1⟩
theorem travelWaits_no (u : Value) (l : List (Int × Int)) (t a : Int) (hl : l.length ≤ 40) (hok : okB l = false) (w : World) (hu : Ps w u l) :
    Calls Tryd.prog 5 #[u, .int .i64 t, .int .i64 a] w fun e w' => e = .returned (.bool true) ∧ Below w.heap.size w w' := by
  have KW := Lib.hid awake_n
  have K := Lib.hid (refCheck_no u l (by omega) hok w hu)
  obtain ⟨oa, c, rfl, -⟩ := hu
  have hI : ¬ (40 : Int) < (l.length : Int) := by omega
  generalize l.length = n at *
  go_enter Tryd.func5, Tryd.ntmps5
  go_wp2_with fail
  refine K.out.mono ?_
  rintro e w0 ⟨oa1, m, c1, rfl, b0⟩
  have hm : (0 : Int) < ((m + 1 : Nat) : Int) := by omega
  go_wp2_with fail
  refine (KW.out _).mono ?_
  rintro e w1 ⟨rfl, b1⟩
  go_wp2_with fail
  go_ret
  exact ⟨rfl, over b0 b1⟩
theorem travelWaits_day (u : Value) (l : List (Int × Int)) (t a : Int) (hl : l.length ≤ 40) (hok : okB l = true) (ht : t < 0 ∨ 1073741824 ≤ t) (w : World) (hu : Ps w u l) :
    Calls Tryd.prog 5 #[u, .int .i64 t, .int .i64 a] w fun e w' => e = .returned (.bool true) ∧ Below w.heap.size w w' := by
  have KW := Lib.hid awake_n
  have K := Lib.hid (refCheck_yes u l (by omega) hok w hu)
  obtain ⟨oa, c, rfl, -⟩ := hu
  have hI : ¬ (40 : Int) < (l.length : Int) := by omega
  generalize l.length = n at *
  rcases ht with ht | ht
  · go_enter Tryd.func5, Tryd.ntmps5
    go_wp2_with fail
    refine K.out.mono ?_
    rintro e w0 ⟨oa1, c1, rfl, b0⟩
    go_wp2_with fail
    refine (KW.out _).mono ?_
    rintro e w1 ⟨rfl, b1⟩
    go_wp2_with fail
    go_ret
    exact ⟨rfl, over b0 b1⟩
  · have ht2 : ¬ t < 0 := by omega
    go_enter Tryd.func5, Tryd.ntmps5
    go_wp2_with fail
    refine K.out.mono ?_
    rintro e w0 ⟨oa1, c1, rfl, b0⟩
    go_wp2_with fail
    refine (KW.out _).mono ?_
    rintro e w1 ⟨rfl, b1⟩
    go_wp2_with fail
    go_ret
    exact ⟨rfl, over b0 b1⟩
set_option maxHeartbeats 1600000 in
theorem travelWaits_walk (u : Value) (l : List (Int × Int)) (t a : Int) (w : World) (hu : Ps w u l) :
    Calls Tryd.prog 5 #[u, .int .i64 t, .int .i64 a] w fun e w' => e = .returned (.bool true) ∧ Below w.heap.size w w' := by
  by_cases h : l.length ≤ 40
  · cases hok : okB l
    · exact travelWaits_no u l t a h hok w hu
    · by_cases ht : t < 0 ∨ 1073741824 ≤ t
      · exact travelWaits_day u l t a h hok ht w hu
      · have ht0 : 0 ≤ t := by omega
        have ht1 : t < 1073741824 := by omega
        have hO := (okB_iff l).1 hok
        have KW := Lib.hid awake_n
        have K0 := Lib.hid (fun w hu => refCheck_yes u l (by omega) hok w hu)
        have K1 := Lib.hid (fun w hu => arrive_n u l t w hu (by omega))
        rw [arrF_yes hO ht0 (by omega)] at K1
        have K2 := Lib.hid (fun w hu => arrive_n u l (t + 1) w hu (by omega))
        rw [arrF_yes hO (show 0 ≤ t + 1 by omega) (by omega)] at K2
        have K3 := Lib.hid (fun w hu => latest_n u l a w hu (by omega))
        have hge := (arr_ge hO ht0).1
        have hmo := arr_mono hO (t := t)
        have hcF : cntF l a = cntA l a 4097 := by unfold cntF; rw [hok, if_pos rfl]
        have hcl := cntF_le l a
        have HIF := Lib.hid (fun n h => cntA_iff hO a 4097 n h)
        have HU := Lib.hid hu
        rw [← hcF] at HIF
        clear hcF
        generalize arr l t = q at *
        generalize arr l (t + 1) = q1 at *
        have hg2 : ¬ q < t := by omega
        have hg3 : ¬ q1 < q := by omega
        generalize cntF l a = cn at *
        cases cn with
        | zero =>
          have K4 := Lib.hid (fun w hu => arrive_n u l 0 w hu (by omega))
          rw [arrF_yes hO (Int.le_refl 0) (by omega)] at K4
          have hz : a < arr l 0 := Int.not_le.1 fun h => Nat.lt_irrefl 0 ((HIF.out 0 (by omega)).2 h)
          unfold LtP at K3
          rw [latN_zero, latB_zero] at K3
          obtain ⟨oa, c, rfl, -⟩ := hu
          have hI : ¬ (40 : Int) < (l.length : Int) := by omega
          generalize l.length = n at *
          generalize arr l 0 = q0 at *
          clear HIF hok hO ht
          go_enter Tryd.func5, Tryd.ntmps5
          go_wp2_with fail
          refine (K0.out _ HU.out).mono ?_
          rintro e w0 ⟨oa1, c1, rfl, b0⟩
          have HU0 := Lib.hid (HU.out.below b0)
          have B0 := Lib.hid b0
          clear b0 HU
          go_wp2_with fail
          refine (K1.out _ HU0.out).mono ?_
          rintro e w1 ⟨rfl, b1⟩
          have HU1 := Lib.hid (HU0.out.below b1)
          have B1 := Lib.hid (over B0.out b1)
          clear b1 HU0 B0
          go_wp2_with fail
          refine (K2.out _ HU1.out).mono ?_
          rintro e w2 ⟨rfl, b2⟩
          have HU2 := Lib.hid (HU1.out.below b2)
          have B2 := Lib.hid (over B1.out b2)
          clear b2 HU1 B1
          go_wp2_with fail
          refine (K3.out _ HU2.out).mono ?_
          rintro e w3 ⟨rfl, b3⟩
          have HU3 := Lib.hid (HU2.out.below b3)
          have B3 := Lib.hid (over B2.out b3)
          clear b3 HU2 B2
          go_wp2_with fail
          refine (K4.out _ HU3.out).mono ?_
          rintro e w4 ⟨rfl, b4⟩
          have HU4 := Lib.hid (HU3.out.below b4)
          have B4 := Lib.hid (over B3.out b4)
          clear b4 HU3 B3
          go_wp2_with fail
          refine (KW.out _).mono ?_
          rintro e w5 ⟨rfl, b5⟩
          go_wp2_with fail
          go_ret
          exact ⟨rfl, over B4.out b5⟩
        | succ d =>
          have K4 := Lib.hid (fun w hu => arrive_n u l d w hu (by omega))
          rw [arrF_yes hO (show (0 : Int) ≤ (d : Int) by omega) (by omega)] at K4
          have hz : arr l d ≤ a := (HIF.out d (by omega)).1 (by omega)
          unfold LtP at K3
          rw [latN_succ, latB_succ] at K3
          have hd0 : (0 : Int) ≤ (d : Int) := by omega
          have hd1 : (d : Int) ≤ 4096 := by omega
          by_cases hd : d = 4096
          · subst hd
            obtain ⟨oa, c, rfl, -⟩ := hu
            have hI : ¬ (40 : Int) < (l.length : Int) := by omega
            generalize l.length = n at *
            generalize arr l (4096 : Nat) = q0 at *
            clear HIF hok hO ht
            go_enter Tryd.func5, Tryd.ntmps5
            go_wp2_with fail
            refine (K0.out _ HU.out).mono ?_
            rintro e w0 ⟨oa1, c1, rfl, b0⟩
            have HU0 := Lib.hid (HU.out.below b0)
            have B0 := Lib.hid b0
            clear b0 HU
            go_wp2_with fail
            refine (K1.out _ HU0.out).mono ?_
            rintro e w1 ⟨rfl, b1⟩
            have HU1 := Lib.hid (HU0.out.below b1)
            have B1 := Lib.hid (over B0.out b1)
            clear b1 HU0 B0
            go_wp2_with fail
            refine (K2.out _ HU1.out).mono ?_
            rintro e w2 ⟨rfl, b2⟩
            have HU2 := Lib.hid (HU1.out.below b2)
            have B2 := Lib.hid (over B1.out b2)
            clear b2 HU1 B1
            go_wp2_with fail
            refine (K3.out _ HU2.out).mono ?_
            rintro e w3 ⟨rfl, b3⟩
            have HU3 := Lib.hid (HU2.out.below b3)
            have B3 := Lib.hid (over B2.out b3)
            clear b3 HU2 B2
            go_wp2_with fail
            refine (K4.out _ HU3.out).mono ?_
            rintro e w4 ⟨rfl, b4⟩
            have HU4 := Lib.hid (HU3.out.below b4)
            have B4 := Lib.hid (over B3.out b4)
            clear b4 HU3 B3
            go_wp2_with fail
            refine (KW.out _).mono ?_
            rintro e w5 ⟨rfl, b5⟩
            go_wp2_with fail
            go_ret
            exact ⟨rfl, over B4.out b5⟩
          · have K5 := Lib.hid (fun w hu => arrive_n u l ((d : Int) + 1) w hu (by omega))
            rw [arrF_yes hO (show (0 : Int) ≤ (d : Int) + 1 by omega) (by omega)] at K5
            have hz2 : a < arr l ((d : Int) + 1) := by
              have h5 := (HIF.out (d + 1) (by omega)).2
              rw [show ((d + 1 : Nat) : Int) = (d : Int) + 1 by omega] at h5
              exact Int.not_le.1 fun h => absurd (h5 h) (by omega)
            have hd2 : ((d : Int) == 4096) = false := ne_eqI (by omega)
            obtain ⟨oa, c, rfl, -⟩ := hu
            have hI : ¬ (40 : Int) < (l.length : Int) := by omega
            generalize l.length = n at *
            generalize arr l (d : Int) = q0 at *
            generalize arr l ((d : Int) + 1) = q2 at *
            clear HIF hok hO ht
            go_enter Tryd.func5, Tryd.ntmps5
            go_wp2_with fail
            refine (K0.out _ HU.out).mono ?_
            rintro e w0 ⟨oa1, c1, rfl, b0⟩
            have HU0 := Lib.hid (HU.out.below b0)
            have B0 := Lib.hid b0
            clear b0 HU
            go_wp2_with fail
            refine (K1.out _ HU0.out).mono ?_
            rintro e w1 ⟨rfl, b1⟩
            have HU1 := Lib.hid (HU0.out.below b1)
            have B1 := Lib.hid (over B0.out b1)
            clear b1 HU0 B0
            go_wp2_with fail
            refine (K2.out _ HU1.out).mono ?_
            rintro e w2 ⟨rfl, b2⟩
            have HU2 := Lib.hid (HU1.out.below b2)
            have B2 := Lib.hid (over B1.out b2)
            clear b2 HU1 B1
            go_wp2_with fail
            refine (K3.out _ HU2.out).mono ?_
            rintro e w3 ⟨rfl, b3⟩
            have HU3 := Lib.hid (HU2.out.below b3)
            have B3 := Lib.hid (over B2.out b3)
            clear b3 HU2 B2
            go_wp2_with fail
            refine (K4.out _ HU3.out).mono ?_
            rintro e w4 ⟨rfl, b4⟩
            have HU4 := Lib.hid (HU3.out.below b4)
            have B4 := Lib.hid (over B3.out b4)
            clear b4 HU3 B3
            go_wp2_with fail
            refine (K5.out _ HU4.out).mono ?_
            rintro e w6 ⟨rfl, b6⟩
            have B6 := Lib.hid (over B4.out b6)
            clear b6
            go_wp2_with fail
            refine (KW.out _).mono ?_
            rintro e w5 ⟨rfl, b5⟩
            go_wp2_with fail
            go_ret
            exact ⟨rfl, over B6.out b5⟩
  · obtain ⟨oa, c, rfl, -⟩ := hu
    exact travelWaits_long _ _ _ _ _ (by omega) w

end Go.Proofs.YtecegfjllncfmaaDoor.T
