/-
  DERIVED. The walk of the law WindowLatest.
-/
import Derived.Test.YtmkdbmeaiehnbaaWinLaw
namespace Go.Proofs.Ytmkdbmeaiehnbaa.V
open Go.RowKit
set_option maxRecDepth 8000

theorem windowLatest_no (p o c s d : Int) (h : ¬ Rt p o c s) (w : World) : Calls Try.prog 5 #[.agg #[.int .i64 p, .int .i64 o, .int .i64 c, .int .i64 s], .int .i64 d] w fun e w' => e = .returned (.bool true) ∧ Below w.heap.size w w' := by
  have K := Lib.hid (fun w => stop_no p o c s h w)
  have KW := Lib.hid awake_n
  clear h
  go_enter Try.func5, Try.ntmps5
  go_wp2_with fail
  refine (K.out _).mono ?_
  rintro e w1 ⟨rfl, b1⟩
  have B1 := Lib.hid (over (w := w) (by go_grown) b1)
  have H1 := Lib.hid ((Bs.made w p o c s).below b1)
  clear b1
  have g0 := H1.out.c0
  have g1 := H1.out.c1
  have g2 := H1.out.c2
  have g3 := H1.out.c3
  go_wp2_with fail
  refine (KW.out _).mono ?_
  rintro e w2 ⟨rfl, b2⟩
  have B2 := Lib.hid (over B1.out b2)
  clear b2 B1 H1 g0 g1 g2 g3
  go_wp2_with fail
  go_ret
  exact ⟨rfl, B2.out⟩
theorem lt_said {o c s d : Int} (hoc : o ≤ c) (h : ltB o s d = true) : o ≤ ltV o c s d ∧ ltV o c s d ≤ c ∧ ltV o c s d + s ≤ d ∧ (ltV o c s d < c → d < ltV o c s d + 1 + s) := by
  unfold ltB at h
  have h2 := of_decide_eq_true h
  unfold ltV
  rw [if_neg (by omega)]
  split <;> omega
set_option maxHeartbeats 1600000 in
theorem windowLatest_walk (p o c s d : Int) (hd : d ≤ 9223372036854775807) (w : World) : Calls Try.prog 5 #[.agg #[.int .i64 p, .int .i64 o, .int .i64 c, .int .i64 s], .int .i64 d] w fun e w' => e = .returned (.bool true) ∧ Below w.heap.size w w' := by
  by_cases h : Rt p o c s
  · have K0 := Lib.hid (fun w => stop_yes p o c s h w)
    obtain ⟨hp, ho, hoc, hc, hs, hs2⟩ := h
    have KW := Lib.hid awake_n
    have K1 := Lib.hid (fun w => latest_n p o c s d ho hoc hc hs hs2 hd w)
    have K2 := Lib.hid (fun w => refLatest_n p o c s d ho hoc hc hs hs2 w)
    cases hB : ltB o s d
    · rw [hB] at K1 K2
      clear hB
      generalize ltV o c s d = x at *
      go_enter Try.func5, Try.ntmps5
      go_wp2_with fail
      refine (K0.out _).mono ?_
      rintro e w1 ⟨rfl, b1⟩
      have B1 := Lib.hid (over (w := w) (by go_grown) b1)
      have H1 := Lib.hid ((Bs.made w p o c s).below b1)
      clear b1
      have g0 := H1.out.c0
      have g1 := H1.out.c1
      have g2 := H1.out.c2
      have g3 := H1.out.c3
      go_wp2_with fail
      refine (K1.out _).mono ?_
      rintro e w2 ⟨rfl, b2⟩
      have B2 := Lib.hid (over B1.out b2)
      have H2 := Lib.hid (H1.out.below b2)
      clear b2 B1 H1 g0 g1 g2 g3
      have g0 := H2.out.c0
      have g1 := H2.out.c1
      have g2 := H2.out.c2
      have g3 := H2.out.c3
      go_wp2_with fail
      refine (K2.out _).mono ?_
      rintro e w3 ⟨rfl, b3⟩
      have B3 := Lib.hid (over B2.out b3)
      have H3 := Lib.hid (H2.out.below b3)
      clear b3 B2 H2 g0 g1 g2 g3
      have g0 := H3.out.c0
      have g1 := H3.out.c1
      have g2 := H3.out.c2
      have g3 := H3.out.c3
      go_wp2_with fail
      refine (KW.out _).mono ?_
      rintro e w4 ⟨rfl, b4⟩
      have B4 := Lib.hid (over B3.out b4)
      clear b4 B3 H3 g0 g1 g2 g3
      go_wp2_with fail
      go_ret
      exact ⟨rfl, B4.out⟩
    · obtain ⟨hx0, hx1, hx2, hx3⟩ := lt_said hoc hB
      rw [hB] at K1 K2
      clear hB
      generalize ltV o c s d = x at *
      have K3 := Lib.hid (fun w => depart_n p o c s x ho hoc hc hs hs2 w)
      rw [dp_in hx0 hx1, bg_ok hx1] at K3
      have K4 := Lib.hid (fun w => depart_n p o c s (x + 1) ho hoc hc hs hs2 w)
      by_cases hy : x < c
      · have hx4 := hx3 hy
        rw [dp_in (by omega) (by omega), bg_ok (by omega)] at K4
        clear hx3
        go_enter Try.func5, Try.ntmps5
        go_wp2_with fail
        refine (K0.out _).mono ?_
        rintro e w1 ⟨rfl, b1⟩
        have B1 := Lib.hid (over (w := w) (by go_grown) b1)
        have H1 := Lib.hid ((Bs.made w p o c s).below b1)
        clear b1
        have g0 := H1.out.c0
        have g1 := H1.out.c1
        have g2 := H1.out.c2
        have g3 := H1.out.c3
        go_wp2_with fail
        refine (K1.out _).mono ?_
        rintro e w2 ⟨rfl, b2⟩
        have B2 := Lib.hid (over B1.out b2)
        have H2 := Lib.hid (H1.out.below b2)
        clear b2 B1 H1 g0 g1 g2 g3
        have g0 := H2.out.c0
        have g1 := H2.out.c1
        have g2 := H2.out.c2
        have g3 := H2.out.c3
        go_wp2_with fail
        refine (K2.out _).mono ?_
        rintro e w3 ⟨rfl, b3⟩
        have B3 := Lib.hid (over B2.out b3)
        have H3 := Lib.hid (H2.out.below b3)
        clear b3 B2 H2 g0 g1 g2 g3
        have g0 := H3.out.c0
        have g1 := H3.out.c1
        have g2 := H3.out.c2
        have g3 := H3.out.c3
        go_wp2_with fail
        refine (K3.out _).mono ?_
        rintro e w4 ⟨rfl, b4⟩
        have B4 := Lib.hid (over B3.out b4)
        have H4 := Lib.hid (H3.out.below b4)
        clear b4 B3 H3 g0 g1 g2 g3
        have g0 := H4.out.c0
        have g1 := H4.out.c1
        have g2 := H4.out.c2
        have g3 := H4.out.c3
        go_wp2_with fail
        refine (K4.out _).mono ?_
        rintro e w5 ⟨rfl, b5⟩
        have B5 := Lib.hid (over B4.out b5)
        have H5 := Lib.hid (H4.out.below b5)
        clear b5 B4 H4 g0 g1 g2 g3
        have g0 := H5.out.c0
        have g1 := H5.out.c1
        have g2 := H5.out.c2
        have g3 := H5.out.c3
        go_wp2_with fail
        refine (KW.out _).mono ?_
        rintro e w6 ⟨rfl, b6⟩
        have B6 := Lib.hid (over B5.out b6)
        clear b6 B5 H5 g0 g1 g2 g3
        go_wp2_with fail
        go_ret
        exact ⟨rfl, B6.out⟩
      · have hE : bgE c (x + 1) = 14 := by unfold bgE; rw [if_pos (by omega)]
        rw [hE] at K4
        clear hx3 hE
        generalize dpV o c s (x + 1) = y at *
        go_enter Try.func5, Try.ntmps5
        go_wp2_with fail
        refine (K0.out _).mono ?_
        rintro e w1 ⟨rfl, b1⟩
        have B1 := Lib.hid (over (w := w) (by go_grown) b1)
        have H1 := Lib.hid ((Bs.made w p o c s).below b1)
        clear b1
        have g0 := H1.out.c0
        have g1 := H1.out.c1
        have g2 := H1.out.c2
        have g3 := H1.out.c3
        go_wp2_with fail
        refine (K1.out _).mono ?_
        rintro e w2 ⟨rfl, b2⟩
        have B2 := Lib.hid (over B1.out b2)
        have H2 := Lib.hid (H1.out.below b2)
        clear b2 B1 H1 g0 g1 g2 g3
        have g0 := H2.out.c0
        have g1 := H2.out.c1
        have g2 := H2.out.c2
        have g3 := H2.out.c3
        go_wp2_with fail
        refine (K2.out _).mono ?_
        rintro e w3 ⟨rfl, b3⟩
        have B3 := Lib.hid (over B2.out b3)
        have H3 := Lib.hid (H2.out.below b3)
        clear b3 B2 H2 g0 g1 g2 g3
        have g0 := H3.out.c0
        have g1 := H3.out.c1
        have g2 := H3.out.c2
        have g3 := H3.out.c3
        go_wp2_with fail
        refine (K3.out _).mono ?_
        rintro e w4 ⟨rfl, b4⟩
        have B4 := Lib.hid (over B3.out b4)
        have H4 := Lib.hid (H3.out.below b4)
        clear b4 B3 H3 g0 g1 g2 g3
        have g0 := H4.out.c0
        have g1 := H4.out.c1
        have g2 := H4.out.c2
        have g3 := H4.out.c3
        go_wp2_with fail
        refine (K4.out _).mono ?_
        rintro e w5 ⟨rfl, b5⟩
        have B5 := Lib.hid (over B4.out b5)
        have H5 := Lib.hid (H4.out.below b5)
        clear b5 B4 H4 g0 g1 g2 g3
        have g0 := H5.out.c0
        have g1 := H5.out.c1
        have g2 := H5.out.c2
        have g3 := H5.out.c3
        go_wp2_with fail
        refine (KW.out _).mono ?_
        rintro e w6 ⟨rfl, b6⟩
        have B6 := Lib.hid (over B5.out b6)
        clear b6 B5 H5 g0 g1 g2 g3
        go_wp2_with fail
        go_ret
        exact ⟨rfl, B6.out⟩
  · exact windowLatest_no p o c s d h w

end Go.Proofs.Ytmkdbmeaiehnbaa.V
