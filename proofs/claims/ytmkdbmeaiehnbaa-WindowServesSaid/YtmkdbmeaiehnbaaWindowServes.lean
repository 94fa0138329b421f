/-
  DERIVED. The walk of the law WindowServes.
-/
import Derived.Test.YtmkdbmeaiehnbaaWinLaw
namespace Go.Proofs.Ytmkdbmeaiehnbaa.V
open Go.RowKit
set_option maxRecDepth 8000

theorem windowServes_no (p o c s a l : Int) (h : ¬ Rt p o c s) (w : World) : Calls Try.prog 4 #[.agg #[.int .i64 p, .int .i64 o, .int .i64 c, .int .i64 s], .int .i64 a, .int .i64 l] w fun e w' => e = .returned (.bool true) ∧ Below w.heap.size w w' := by
  have K := Lib.hid (fun w => stop_no p o c s h w)
  have KW := Lib.hid awake_n
  clear h
  go_enter Try.func4, Try.ntmps4
  go_wp2_with fail
  refine (K.out _).mono ?_
  rintro e w1 ⟨rfl, b1⟩
  have B1 := Lib.hid (over (w := w) (by go_grown) b1)
  have H1 := Lib.hid ((Bs.made w p o c s).below b1)
  clear b1
  have g0 := H1.out.c0
  have g1 := H1.out.c1
  have g2 := H1.out.c2
  have g3 := H1.out.c3
  go_wp2_with fail
  refine (KW.out _).mono ?_
  rintro e w2 ⟨rfl, b2⟩
  have B2 := Lib.hid (over B1.out b2)
  clear b2 B1 H1 g0 g1 g2 g3
  go_wp2_with fail
  go_ret
  exact ⟨rfl, B2.out⟩
theorem serve_mono {o c s a m : Int} (ham : a ≤ m) (h : bgE c m = 0) : bgE c a = 0 ∧ dpV o c s a ≤ dpV o c s m := by
  have h1 : ¬ c < m := fun h2 => by unfold bgE at h; rw [if_pos h2] at h; omega
  have h2 : ¬ c < a := by omega
  refine ⟨by unfold bgE; rw [if_neg h2], ?_⟩
  unfold dpV bgV
  rw [if_neg h1, if_neg h1, if_neg h2, if_neg h2]
  split <;> split <;> omega
set_option maxHeartbeats 1600000 in
theorem windowServes_walk (p o c s a l : Int) (w : World) : Calls Try.prog 4 #[.agg #[.int .i64 p, .int .i64 o, .int .i64 c, .int .i64 s], .int .i64 a, .int .i64 l] w fun e w' => e = .returned (.bool true) ∧ Below w.heap.size w w' := by
  by_cases h : Rt p o c s
  · have K0 := Lib.hid (fun w => stop_yes p o c s h w)
    obtain ⟨hp, ho, hoc, hc, hs, hs2⟩ := h
    have KW := Lib.hid awake_n
    have K1 := Lib.hid (fun w => begin_n p o c s a hoc w)
    have K2 := Lib.hid (fun w => refBegin_n p o c s a hoc w)
    have K3 := Lib.hid (fun w => depart_n p o c s a ho hoc hc hs hs2 w)
    have K4 := Lib.hid (fun w => refDepart_n p o c s a ho hoc hc hs hs2 w)
    by_cases hm : a < l
    · have K5 := Lib.hid (fun w => depart_n p o c s l ho hoc hc hs hs2 w)
      by_cases hk : bgE c l = 0
      · obtain ⟨m1, m2⟩ := serve_mono (o := o) (s := s) (a := a) (m := l) (by omega) hk
        rw [m1] at K1 K2 K3 K4
        rw [hk] at K5
        clear hk m1
        generalize bgV o c a = x at *
        generalize dpV o c s a = y at *
        generalize dpV o c s l = z at *
        go_enter Try.func4, Try.ntmps4
        go_wp2_with fail
        refine (K0.out _).mono ?_
        rintro e w1 ⟨rfl, b1⟩
        have B1 := Lib.hid (over (w := w) (by go_grown) b1)
        have H1 := Lib.hid ((Bs.made w p o c s).below b1)
        clear b1
        have g0 := H1.out.c0
        have g1 := H1.out.c1
        have g2 := H1.out.c2
        have g3 := H1.out.c3
        go_wp2_with fail
        refine (K1.out _).mono ?_
        rintro e w2 ⟨rfl, b2⟩
        have B2 := Lib.hid (over B1.out b2)
        have H2 := Lib.hid (H1.out.below b2)
        clear b2 B1 H1 g0 g1 g2 g3
        have g0 := H2.out.c0
        have g1 := H2.out.c1
        have g2 := H2.out.c2
        have g3 := H2.out.c3
        go_wp2_with fail
        refine (K2.out _).mono ?_
        rintro e w3 ⟨rfl, b3⟩
        have B3 := Lib.hid (over B2.out b3)
        have H3 := Lib.hid (H2.out.below b3)
        clear b3 B2 H2 g0 g1 g2 g3
        have g0 := H3.out.c0
        have g1 := H3.out.c1
        have g2 := H3.out.c2
        have g3 := H3.out.c3
        go_wp2_with fail
        refine (K3.out _).mono ?_
        rintro e w4 ⟨rfl, b4⟩
        have B4 := Lib.hid (over B3.out b4)
        have H4 := Lib.hid (H3.out.below b4)
        clear b4 B3 H3 g0 g1 g2 g3
        have g0 := H4.out.c0
        have g1 := H4.out.c1
        have g2 := H4.out.c2
        have g3 := H4.out.c3
        go_wp2_with fail
        refine (K4.out _).mono ?_
        rintro e w5 ⟨rfl, b5⟩
        have B5 := Lib.hid (over B4.out b5)
        have H5 := Lib.hid (H4.out.below b5)
        clear b5 B4 H4 g0 g1 g2 g3
        have g0 := H5.out.c0
        have g1 := H5.out.c1
        have g2 := H5.out.c2
        have g3 := H5.out.c3
        go_wp2_with fail
        refine (K5.out _).mono ?_
        rintro e w6 ⟨rfl, b6⟩
        have B6 := Lib.hid (over B5.out b6)
        have H6 := Lib.hid (H5.out.below b6)
        clear b6 B5 H5 g0 g1 g2 g3
        have g0 := H6.out.c0
        have g1 := H6.out.c1
        have g2 := H6.out.c2
        have g3 := H6.out.c3
        go_wp2_with fail
        refine (KW.out _).mono ?_
        rintro e w7 ⟨rfl, b7⟩
        have B7 := Lib.hid (over B6.out b7)
        clear b7 B6 H6 g0 g1 g2 g3
        go_wp2_with fail
        go_ret
        exact ⟨rfl, B7.out⟩
      · have hk2 := ne_neI hk
        clear hk
        generalize bgV o c a = x at *
        generalize dpV o c s l = z at *
        generalize bgE c l = u at *
        generalize dpV o c s a = y at *
        generalize bgE c a = v at *
        go_enter Try.func4, Try.ntmps4
        go_wp2_with fail
        refine (K0.out _).mono ?_
        rintro e w1 ⟨rfl, b1⟩
        have B1 := Lib.hid (over (w := w) (by go_grown) b1)
        have H1 := Lib.hid ((Bs.made w p o c s).below b1)
        clear b1
        have g0 := H1.out.c0
        have g1 := H1.out.c1
        have g2 := H1.out.c2
        have g3 := H1.out.c3
        go_wp2_with fail
        refine (K1.out _).mono ?_
        rintro e w2 ⟨rfl, b2⟩
        have B2 := Lib.hid (over B1.out b2)
        have H2 := Lib.hid (H1.out.below b2)
        clear b2 B1 H1 g0 g1 g2 g3
        have g0 := H2.out.c0
        have g1 := H2.out.c1
        have g2 := H2.out.c2
        have g3 := H2.out.c3
        go_wp2_with fail
        refine (K2.out _).mono ?_
        rintro e w3 ⟨rfl, b3⟩
        have B3 := Lib.hid (over B2.out b3)
        have H3 := Lib.hid (H2.out.below b3)
        clear b3 B2 H2 g0 g1 g2 g3
        have g0 := H3.out.c0
        have g1 := H3.out.c1
        have g2 := H3.out.c2
        have g3 := H3.out.c3
        go_wp2_with fail
        refine (K3.out _).mono ?_
        rintro e w4 ⟨rfl, b4⟩
        have B4 := Lib.hid (over B3.out b4)
        have H4 := Lib.hid (H3.out.below b4)
        clear b4 B3 H3 g0 g1 g2 g3
        have g0 := H4.out.c0
        have g1 := H4.out.c1
        have g2 := H4.out.c2
        have g3 := H4.out.c3
        go_wp2_with fail
        refine (K4.out _).mono ?_
        rintro e w5 ⟨rfl, b5⟩
        have B5 := Lib.hid (over B4.out b5)
        have H5 := Lib.hid (H4.out.below b5)
        clear b5 B4 H4 g0 g1 g2 g3
        have g0 := H5.out.c0
        have g1 := H5.out.c1
        have g2 := H5.out.c2
        have g3 := H5.out.c3
        go_wp2_with fail
        refine (K5.out _).mono ?_
        rintro e w6 ⟨rfl, b6⟩
        have B6 := Lib.hid (over B5.out b6)
        have H6 := Lib.hid (H5.out.below b6)
        clear b6 B5 H5 g0 g1 g2 g3
        have g0 := H6.out.c0
        have g1 := H6.out.c1
        have g2 := H6.out.c2
        have g3 := H6.out.c3
        go_wp2_with fail
        refine (KW.out _).mono ?_
        rintro e w7 ⟨rfl, b7⟩
        have B7 := Lib.hid (over B6.out b7)
        clear b7 B6 H6 g0 g1 g2 g3
        go_wp2_with fail
        go_ret
        exact ⟨rfl, B7.out⟩
    · have K5 := Lib.hid (fun w => depart_n p o c s a ho hoc hc hs hs2 w)
      by_cases hk : bgE c a = 0
      · obtain ⟨m1, m2⟩ := serve_mono (o := o) (s := s) (a := a) (m := a) (by omega) hk
        rw [m1] at K1 K2 K3 K4
        rw [hk] at K5
        clear hk m1
        generalize bgV o c a = x at *
        generalize dpV o c s a = y at *
        generalize dpV o c s a = z at *
        go_enter Try.func4, Try.ntmps4
        go_wp2_with fail
        refine (K0.out _).mono ?_
        rintro e w1 ⟨rfl, b1⟩
        have B1 := Lib.hid (over (w := w) (by go_grown) b1)
        have H1 := Lib.hid ((Bs.made w p o c s).below b1)
        clear b1
        have g0 := H1.out.c0
        have g1 := H1.out.c1
        have g2 := H1.out.c2
        have g3 := H1.out.c3
        go_wp2_with fail
        refine (K1.out _).mono ?_
        rintro e w2 ⟨rfl, b2⟩
        have B2 := Lib.hid (over B1.out b2)
        have H2 := Lib.hid (H1.out.below b2)
        clear b2 B1 H1 g0 g1 g2 g3
        have g0 := H2.out.c0
        have g1 := H2.out.c1
        have g2 := H2.out.c2
        have g3 := H2.out.c3
        go_wp2_with fail
        refine (K2.out _).mono ?_
        rintro e w3 ⟨rfl, b3⟩
        have B3 := Lib.hid (over B2.out b3)
        have H3 := Lib.hid (H2.out.below b3)
        clear b3 B2 H2 g0 g1 g2 g3
        have g0 := H3.out.c0
        have g1 := H3.out.c1
        have g2 := H3.out.c2
        have g3 := H3.out.c3
        go_wp2_with fail
        refine (K3.out _).mono ?_
        rintro e w4 ⟨rfl, b4⟩
        have B4 := Lib.hid (over B3.out b4)
        have H4 := Lib.hid (H3.out.below b4)
        clear b4 B3 H3 g0 g1 g2 g3
        have g0 := H4.out.c0
        have g1 := H4.out.c1
        have g2 := H4.out.c2
        have g3 := H4.out.c3
        go_wp2_with fail
        refine (K4.out _).mono ?_
        rintro e w5 ⟨rfl, b5⟩
        have B5 := Lib.hid (over B4.out b5)
        have H5 := Lib.hid (H4.out.below b5)
        clear b5 B4 H4 g0 g1 g2 g3
        have g0 := H5.out.c0
        have g1 := H5.out.c1
        have g2 := H5.out.c2
        have g3 := H5.out.c3
        go_wp2_with fail
        refine (K5.out _).mono ?_
        rintro e w6 ⟨rfl, b6⟩
        have B6 := Lib.hid (over B5.out b6)
        have H6 := Lib.hid (H5.out.below b6)
        clear b6 B5 H5 g0 g1 g2 g3
        have g0 := H6.out.c0
        have g1 := H6.out.c1
        have g2 := H6.out.c2
        have g3 := H6.out.c3
        go_wp2_with fail
        refine (KW.out _).mono ?_
        rintro e w7 ⟨rfl, b7⟩
        have B7 := Lib.hid (over B6.out b7)
        clear b7 B6 H6 g0 g1 g2 g3
        go_wp2_with fail
        go_ret
        exact ⟨rfl, B7.out⟩
      · have hk2 := ne_neI hk
        clear hk
        generalize bgV o c a = x at *
        generalize dpV o c s a = z at *
        generalize bgE c a = u at *
        generalize dpV o c s a = y at *
        generalize bgE c a = v at *
        go_enter Try.func4, Try.ntmps4
        go_wp2_with fail
        refine (K0.out _).mono ?_
        rintro e w1 ⟨rfl, b1⟩
        have B1 := Lib.hid (over (w := w) (by go_grown) b1)
        have H1 := Lib.hid ((Bs.made w p o c s).below b1)
        clear b1
        have g0 := H1.out.c0
        have g1 := H1.out.c1
        have g2 := H1.out.c2
        have g3 := H1.out.c3
        go_wp2_with fail
        refine (K1.out _).mono ?_
        rintro e w2 ⟨rfl, b2⟩
        have B2 := Lib.hid (over B1.out b2)
        have H2 := Lib.hid (H1.out.below b2)
        clear b2 B1 H1 g0 g1 g2 g3
        have g0 := H2.out.c0
        have g1 := H2.out.c1
        have g2 := H2.out.c2
        have g3 := H2.out.c3
        go_wp2_with fail
        refine (K2.out _).mono ?_
        rintro e w3 ⟨rfl, b3⟩
        have B3 := Lib.hid (over B2.out b3)
        have H3 := Lib.hid (H2.out.below b3)
        clear b3 B2 H2 g0 g1 g2 g3
        have g0 := H3.out.c0
        have g1 := H3.out.c1
        have g2 := H3.out.c2
        have g3 := H3.out.c3
        go_wp2_with fail
        refine (K3.out _).mono ?_
        rintro e w4 ⟨rfl, b4⟩
        have B4 := Lib.hid (over B3.out b4)
        have H4 := Lib.hid (H3.out.below b4)
        clear b4 B3 H3 g0 g1 g2 g3
        have g0 := H4.out.c0
        have g1 := H4.out.c1
        have g2 := H4.out.c2
        have g3 := H4.out.c3
        go_wp2_with fail
        refine (K4.out _).mono ?_
        rintro e w5 ⟨rfl, b5⟩
        have B5 := Lib.hid (over B4.out b5)
        have H5 := Lib.hid (H4.out.below b5)
        clear b5 B4 H4 g0 g1 g2 g3
        have g0 := H5.out.c0
        have g1 := H5.out.c1
        have g2 := H5.out.c2
        have g3 := H5.out.c3
        go_wp2_with fail
        refine (K5.out _).mono ?_
        rintro e w6 ⟨rfl, b6⟩
        have B6 := Lib.hid (over B5.out b6)
        have H6 := Lib.hid (H5.out.below b6)
        clear b6 B5 H5 g0 g1 g2 g3
        have g0 := H6.out.c0
        have g1 := H6.out.c1
        have g2 := H6.out.c2
        have g3 := H6.out.c3
        go_wp2_with fail
        refine (KW.out _).mono ?_
        rintro e w7 ⟨rfl, b7⟩
        have B7 := Lib.hid (over B6.out b7)
        clear b7 B6 H6 g0 g1 g2 g3
        go_wp2_with fail
        go_ret
        exact ⟨rfl, B7.out⟩
  · exact windowServes_no p o c s a l h w

end Go.Proofs.Ytmkdbmeaiehnbaa.V
