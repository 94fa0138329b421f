/-
  DERIVED. The walk of the law WindowShifts.
-/
import Derived.Test.YtmkdbmeaiehnbaaWinLaw
namespace Go.Proofs.Ytmkdbmeaiehnbaa.V
open Go.RowKit
set_option maxRecDepth 8000

set_option maxHeartbeats 1600000 in
theorem windowShifts_none (n : Int) (w : World) : Calls Try.prog 7 #[.agg #[.int .i64 (-1), .int .i64 0, .int .i64 0, .int .i64 0], .int .i64 n] w fun e w' => e = .returned (.bool true) ∧ Below w.heap.size w w' := by
  have KW := Lib.hid awake_n
  have K0 := Lib.hid (fun w => refCheck_n (-1) 0 0 0 w)
  rw [show chk (-1) 0 0 0 = 0 from rfl] at K0
  have K1 := Lib.hid (fun w => shift_none 0 0 0 n w)
  have K2 := Lib.hid (fun w => refShift_none 0 0 0 n w)
  go_enter Try.func7, Try.ntmps7
  go_wp2_with fail
  refine (K0.out _).mono ?_
  rintro e w1 ⟨rfl, b1⟩
  have B1 := Lib.hid (over (w := w) (by go_grown) b1)
  have H1 := Lib.hid ((Bs.made w (-1) 0 0 0).below b1)
  clear b1
  have hg0 := H1.out.c0
  have hg1 := H1.out.c1
  have hg2 := H1.out.c2
  have hg3 := H1.out.c3
  go_wp2_with fail
  refine (K1.out _).mono ?_
  rintro e w2 ⟨rfl, b2⟩
  have B2 := Lib.hid (over B1.out b2)
  have H2 := Lib.hid (H1.out.below b2)
  clear b2 B1 H1 hg0 hg1 hg2 hg3
  have H2 := Lib.hid (H2.out.alloc (.cells #[.int .i64 (-1), .int .i64 0, .int .i64 0, .int .i64 0] 23))
  have T2 := Lib.hid (Bs.made w2 (-1) 0 0 0)
  have B2 := Lib.hid (over B2.out (below_alloc w2 (.cells #[.int .i64 (-1), .int .i64 0, .int .i64 0, .int .i64 0] 23)))
  have hg0 := H2.out.c0
  have hg1 := H2.out.c1
  have hg2 := H2.out.c2
  have hg3 := H2.out.c3
  have tg0 := T2.out.c0
  have tg1 := T2.out.c1
  have tg2 := T2.out.c2
  have tg3 := T2.out.c3
  go_wp2_with fail
  refine (K2.out _).mono ?_
  rintro e w3 ⟨rfl, b3⟩
  have B3 := Lib.hid (over B2.out b3)
  have H3 := Lib.hid (H2.out.below b3)
  have T3 := Lib.hid (T2.out.below b3)
  clear b3 B2 H2 T2 hg0 hg1 hg2 hg3 tg0 tg1 tg2 tg3
  have H3 := Lib.hid (H3.out.alloc (.cells #[.int .i64 (-1), .int .i64 0, .int .i64 0, .int .i64 0] 23))
  have T3 := Lib.hid (T3.out.alloc (.cells #[.int .i64 (-1), .int .i64 0, .int .i64 0, .int .i64 0] 23))
  have U3 := Lib.hid (Bs.made w3 (-1) 0 0 0)
  have B3 := Lib.hid (over B3.out (below_alloc w3 (.cells #[.int .i64 (-1), .int .i64 0, .int .i64 0, .int .i64 0] 23)))
  have hg0 := H3.out.c0
  have hg1 := H3.out.c1
  have hg2 := H3.out.c2
  have hg3 := H3.out.c3
  have tg0 := T3.out.c0
  have tg1 := T3.out.c1
  have tg2 := T3.out.c2
  have tg3 := T3.out.c3
  have ug0 := U3.out.c0
  have ug1 := U3.out.c1
  have ug2 := U3.out.c2
  have ug3 := U3.out.c3
  go_wp2_with fail
  refine (KW.out _).mono ?_
  rintro e w4 ⟨rfl, b4⟩
  have B4 := Lib.hid (over B3.out b4)
  have H4 := Lib.hid (H3.out.below b4)
  have T4 := Lib.hid (T3.out.below b4)
  have U4 := Lib.hid (U3.out.below b4)
  clear b4 B3 H3 T3 U3 hg0 hg1 hg2 hg3 tg0 tg1 tg2 tg3 ug0 ug1 ug2 ug3
  have hg0 := H4.out.c0
  have hg1 := H4.out.c1
  have hg2 := H4.out.c2
  have hg3 := H4.out.c3
  have tg0 := T4.out.c0
  have tg1 := T4.out.c1
  have tg2 := T4.out.c2
  have tg3 := T4.out.c3
  have ug0 := U4.out.c0
  have ug1 := U4.out.c1
  have ug2 := U4.out.c2
  have ug3 := U4.out.c3
  go_wp2_with fail
  go_ret
  exact ⟨rfl, B4.out⟩
set_option maxHeartbeats 1600000 in
theorem windowShifts_no (p o c s n : Int) (h : Rt p o c s) (hn : n < -o ∨ 4096 - c < n) (w : World) : Calls Try.prog 7 #[.agg #[.int .i64 p, .int .i64 o, .int .i64 c, .int .i64 s], .int .i64 n] w fun e w' => e = .returned (.bool true) ∧ Below w.heap.size w w' := by
  have KW := Lib.hid awake_n
  have K0 := Lib.hid (fun w => refCheck_n p o c s w)
  rw [chk_at h] at K0
  obtain ⟨hp, ho, hoc, hc, hs, hs2⟩ := h
  have K1 := Lib.hid (fun w => shift_no p o c s n hp ho hoc hc hn w)
  have K2 := Lib.hid (fun w => refShift_no p o c s n hp ho hoc hc hn w)
  clear hn
  go_enter Try.func7, Try.ntmps7
  go_wp2_with fail
  refine (K0.out _).mono ?_
  rintro e w1 ⟨rfl, b1⟩
  have B1 := Lib.hid (over (w := w) (by go_grown) b1)
  have H1 := Lib.hid ((Bs.made w p o c s).below b1)
  clear b1
  have hg0 := H1.out.c0
  have hg1 := H1.out.c1
  have hg2 := H1.out.c2
  have hg3 := H1.out.c3
  go_wp2_with fail
  refine (K1.out _).mono ?_
  rintro e w2 ⟨rfl, b2⟩
  have B2 := Lib.hid (over B1.out b2)
  have H2 := Lib.hid (H1.out.below b2)
  clear b2 B1 H1 hg0 hg1 hg2 hg3
  have H2 := Lib.hid (H2.out.alloc (.cells #[.int .i64 0, .int .i64 0, .int .i64 0, .int .i64 0] 23))
  have T2 := Lib.hid (Bs.made w2 0 0 0 0)
  have B2 := Lib.hid (over B2.out (below_alloc w2 (.cells #[.int .i64 0, .int .i64 0, .int .i64 0, .int .i64 0] 23)))
  have hg0 := H2.out.c0
  have hg1 := H2.out.c1
  have hg2 := H2.out.c2
  have hg3 := H2.out.c3
  have tg0 := T2.out.c0
  have tg1 := T2.out.c1
  have tg2 := T2.out.c2
  have tg3 := T2.out.c3
  go_wp2_with fail
  refine (K2.out _).mono ?_
  rintro e w3 ⟨rfl, b3⟩
  have B3 := Lib.hid (over B2.out b3)
  have H3 := Lib.hid (H2.out.below b3)
  have T3 := Lib.hid (T2.out.below b3)
  clear b3 B2 H2 T2 hg0 hg1 hg2 hg3 tg0 tg1 tg2 tg3
  have H3 := Lib.hid (H3.out.alloc (.cells #[.int .i64 0, .int .i64 0, .int .i64 0, .int .i64 0] 23))
  have T3 := Lib.hid (T3.out.alloc (.cells #[.int .i64 0, .int .i64 0, .int .i64 0, .int .i64 0] 23))
  have U3 := Lib.hid (Bs.made w3 0 0 0 0)
  have B3 := Lib.hid (over B3.out (below_alloc w3 (.cells #[.int .i64 0, .int .i64 0, .int .i64 0, .int .i64 0] 23)))
  have hg0 := H3.out.c0
  have hg1 := H3.out.c1
  have hg2 := H3.out.c2
  have hg3 := H3.out.c3
  have tg0 := T3.out.c0
  have tg1 := T3.out.c1
  have tg2 := T3.out.c2
  have tg3 := T3.out.c3
  have ug0 := U3.out.c0
  have ug1 := U3.out.c1
  have ug2 := U3.out.c2
  have ug3 := U3.out.c3
  go_wp2_with fail
  refine (KW.out _).mono ?_
  rintro e w4 ⟨rfl, b4⟩
  have B4 := Lib.hid (over B3.out b4)
  have H4 := Lib.hid (H3.out.below b4)
  have T4 := Lib.hid (T3.out.below b4)
  have U4 := Lib.hid (U3.out.below b4)
  clear b4 B3 H3 T3 U3 hg0 hg1 hg2 hg3 tg0 tg1 tg2 tg3 ug0 ug1 ug2 ug3
  have hg0 := H4.out.c0
  have hg1 := H4.out.c1
  have hg2 := H4.out.c2
  have hg3 := H4.out.c3
  have tg0 := T4.out.c0
  have tg1 := T4.out.c1
  have tg2 := T4.out.c2
  have tg3 := T4.out.c3
  have ug0 := U4.out.c0
  have ug1 := U4.out.c1
  have ug2 := U4.out.c2
  have ug3 := U4.out.c3
  go_wp2_with fail
  go_ret
  exact ⟨rfl, B4.out⟩
set_option maxHeartbeats 1600000 in
theorem windowShifts_yes (p o c s n x y : Int) (h : Rt p o c s) (h1 : ¬ n < -o) (h2 : ¬ 4096 - c < n) (hx : o + n = x) (hy : c + n = y) (w : World) : Calls Try.prog 7 #[.agg #[.int .i64 p, .int .i64 o, .int .i64 c, .int .i64 s], .int .i64 n] w fun e w' => e = .returned (.bool true) ∧ Below w.heap.size w w' := by
  have KW := Lib.hid awake_n
  have K0 := Lib.hid (fun w => refCheck_n p o c s w)
  rw [chk_at h] at K0
  obtain ⟨hp, ho, hoc, hc, hs, hs2⟩ := h
  have K1 := Lib.hid (fun w => shift_yes p o c s n hp ho hoc hc h1 h2 w)
  have K2 := Lib.hid (fun w => refShift_yes p o c s n hp ho hoc hc h1 h2 w)
  rw [hx, hy] at K1 K2
  have K3 := Lib.hid (fun w => shift_yes p x y s (-n) hp (by omega) (by omega) (by omega) (by omega) (by omega) w)
  rw [show x + -n = o by omega, show y + -n = c by omega] at K3
  have K4 := Lib.hid (fun w => check_n p x y s w)
  rw [chk_at (by omega)] at K4
  have hp2 : ¬ p < 0 := by omega
  have hn0 : -4096 ≤ n := by omega
  have hn1 : n ≤ 4096 := by omega
  clear hx hy h1 h2
  go_enter Try.func7, Try.ntmps7
  go_wp2_with fail
  refine (K0.out _).mono ?_
  rintro e w1 ⟨rfl, b1⟩
  have B1 := Lib.hid (over (w := w) (by go_grown) b1)
  have H1 := Lib.hid ((Bs.made w p o c s).below b1)
  clear b1
  have hg0 := H1.out.c0
  have hg1 := H1.out.c1
  have hg2 := H1.out.c2
  have hg3 := H1.out.c3
  go_wp2_with fail
  refine (K1.out _).mono ?_
  rintro e w2 ⟨rfl, b2⟩
  have B2 := Lib.hid (over B1.out b2)
  have H2 := Lib.hid (H1.out.below b2)
  clear b2 B1 H1 hg0 hg1 hg2 hg3
  have H2 := Lib.hid (H2.out.alloc (.cells #[.int .i64 p, .int .i64 x, .int .i64 y, .int .i64 s] 23))
  have T2 := Lib.hid (Bs.made w2 p x y s)
  have B2 := Lib.hid (over B2.out (below_alloc w2 (.cells #[.int .i64 p, .int .i64 x, .int .i64 y, .int .i64 s] 23)))
  have hg0 := H2.out.c0
  have hg1 := H2.out.c1
  have hg2 := H2.out.c2
  have hg3 := H2.out.c3
  have tg0 := T2.out.c0
  have tg1 := T2.out.c1
  have tg2 := T2.out.c2
  have tg3 := T2.out.c3
  go_wp2_with fail
  refine (K2.out _).mono ?_
  rintro e w3 ⟨rfl, b3⟩
  have B3 := Lib.hid (over B2.out b3)
  have H3 := Lib.hid (H2.out.below b3)
  have T3 := Lib.hid (T2.out.below b3)
  clear b3 B2 H2 T2 hg0 hg1 hg2 hg3 tg0 tg1 tg2 tg3
  have H3 := Lib.hid (H3.out.alloc (.cells #[.int .i64 p, .int .i64 x, .int .i64 y, .int .i64 s] 23))
  have T3 := Lib.hid (T3.out.alloc (.cells #[.int .i64 p, .int .i64 x, .int .i64 y, .int .i64 s] 23))
  have U3 := Lib.hid (Bs.made w3 p x y s)
  have B3 := Lib.hid (over B3.out (below_alloc w3 (.cells #[.int .i64 p, .int .i64 x, .int .i64 y, .int .i64 s] 23)))
  have hg0 := H3.out.c0
  have hg1 := H3.out.c1
  have hg2 := H3.out.c2
  have hg3 := H3.out.c3
  have tg0 := T3.out.c0
  have tg1 := T3.out.c1
  have tg2 := T3.out.c2
  have tg3 := T3.out.c3
  have ug0 := U3.out.c0
  have ug1 := U3.out.c1
  have ug2 := U3.out.c2
  have ug3 := U3.out.c3
  go_wp2_with fail
  refine (K3.out _).mono ?_
  rintro e w4 ⟨rfl, b4⟩
  have B4 := Lib.hid (over B3.out b4)
  have H4 := Lib.hid (H3.out.below b4)
  have T4 := Lib.hid (T3.out.below b4)
  have U4 := Lib.hid (U3.out.below b4)
  clear b4 B3 H3 T3 U3 hg0 hg1 hg2 hg3 tg0 tg1 tg2 tg3 ug0 ug1 ug2 ug3
  have H4 := Lib.hid (H4.out.alloc (.cells #[.int .i64 p, .int .i64 o, .int .i64 c, .int .i64 s] 23))
  have T4 := Lib.hid (T4.out.alloc (.cells #[.int .i64 p, .int .i64 o, .int .i64 c, .int .i64 s] 23))
  have U4 := Lib.hid (U4.out.alloc (.cells #[.int .i64 p, .int .i64 o, .int .i64 c, .int .i64 s] 23))
  have R4 := Lib.hid (Bs.made w4 p o c s)
  have B4 := Lib.hid (over B4.out (below_alloc w4 (.cells #[.int .i64 p, .int .i64 o, .int .i64 c, .int .i64 s] 23)))
  have hg0 := H4.out.c0
  have hg1 := H4.out.c1
  have hg2 := H4.out.c2
  have hg3 := H4.out.c3
  have tg0 := T4.out.c0
  have tg1 := T4.out.c1
  have tg2 := T4.out.c2
  have tg3 := T4.out.c3
  have ug0 := U4.out.c0
  have ug1 := U4.out.c1
  have ug2 := U4.out.c2
  have ug3 := U4.out.c3
  have rg0 := R4.out.c0
  have rg1 := R4.out.c1
  have rg2 := R4.out.c2
  have rg3 := R4.out.c3
  go_wp2_with fail
  refine (K4.out _).mono ?_
  rintro e w5 ⟨rfl, b5⟩
  have B5 := Lib.hid (over B4.out b5)
  have H5 := Lib.hid (H4.out.below b5)
  have T5 := Lib.hid (T4.out.below b5)
  have U5 := Lib.hid (U4.out.below b5)
  have R5 := Lib.hid (R4.out.below b5)
  clear b5 B4 H4 T4 U4 R4 hg0 hg1 hg2 hg3 tg0 tg1 tg2 tg3 ug0 ug1 ug2 ug3 rg0 rg1 rg2 rg3
  have hg0 := H5.out.c0
  have hg1 := H5.out.c1
  have hg2 := H5.out.c2
  have hg3 := H5.out.c3
  have tg0 := T5.out.c0
  have tg1 := T5.out.c1
  have tg2 := T5.out.c2
  have tg3 := T5.out.c3
  have ug0 := U5.out.c0
  have ug1 := U5.out.c1
  have ug2 := U5.out.c2
  have ug3 := U5.out.c3
  have rg0 := R5.out.c0
  have rg1 := R5.out.c1
  have rg2 := R5.out.c2
  have rg3 := R5.out.c3
  go_wp2_with fail
  refine (KW.out _).mono ?_
  rintro e w6 ⟨rfl, b6⟩
  have B6 := Lib.hid (over B5.out b6)
  have H6 := Lib.hid (H5.out.below b6)
  have T6 := Lib.hid (T5.out.below b6)
  have U6 := Lib.hid (U5.out.below b6)
  have R6 := Lib.hid (R5.out.below b6)
  clear b6 B5 H5 T5 U5 R5 hg0 hg1 hg2 hg3 tg0 tg1 tg2 tg3 ug0 ug1 ug2 ug3 rg0 rg1 rg2 rg3
  have hg0 := H6.out.c0
  have hg1 := H6.out.c1
  have hg2 := H6.out.c2
  have hg3 := H6.out.c3
  have tg0 := T6.out.c0
  have tg1 := T6.out.c1
  have tg2 := T6.out.c2
  have tg3 := T6.out.c3
  have ug0 := U6.out.c0
  have ug1 := U6.out.c1
  have ug2 := U6.out.c2
  have ug3 := U6.out.c3
  have rg0 := R6.out.c0
  have rg1 := R6.out.c1
  have rg2 := R6.out.c2
  have rg3 := R6.out.c3
  go_wp2_with fail
  go_ret
  exact ⟨rfl, B6.out⟩
set_option maxHeartbeats 1600000 in
theorem windowShifts_wrong (p o c s n : Int) (h : chk p o c s = 2) (w : World) : Calls Try.prog 7 #[.agg #[.int .i64 p, .int .i64 o, .int .i64 c, .int .i64 s], .int .i64 n] w fun e w' => e = .returned (.bool true) ∧ Below w.heap.size w w' := by
  have KW := Lib.hid awake_n
  have K0 := Lib.hid (fun w => refCheck_n p o c s w)
  rw [h] at K0
  clear h
  go_enter Try.func7, Try.ntmps7
  go_wp2_with fail
  refine (K0.out _).mono ?_
  rintro e w1 ⟨rfl, b1⟩
  have B1 := Lib.hid (over (w := w) (by go_grown) b1)
  have H1 := Lib.hid ((Bs.made w p o c s).below b1)
  clear b1
  have hg0 := H1.out.c0
  have hg1 := H1.out.c1
  have hg2 := H1.out.c2
  have hg3 := H1.out.c3
  go_wp2_with fail
  refine (KW.out _).mono ?_
  rintro e w2 ⟨rfl, b2⟩
  have B2 := Lib.hid (over B1.out b2)
  have H2 := Lib.hid (H1.out.below b2)
  clear b2 B1 H1 hg0 hg1 hg2 hg3
  have hg0 := H2.out.c0
  have hg1 := H2.out.c1
  have hg2 := H2.out.c2
  have hg3 := H2.out.c3
  go_wp2_with fail
  go_ret
  exact ⟨rfl, B2.out⟩
theorem windowShifts_walk (p o c s n : Int) (w : World) : Calls Try.prog 7 #[.agg #[.int .i64 p, .int .i64 o, .int .i64 c, .int .i64 s], .int .i64 n] w fun e w' => e = .returned (.bool true) ∧ Below w.heap.size w w' := by
  rcases chk_cases p o c s with ⟨_, ⟨h0, h1, h2, h3⟩ | h⟩ | h
  · subst h0; subst h1; subst h2; subst h3
    exact windowShifts_none n w
  · by_cases hn : n < -o ∨ 4096 - c < n
    · exact windowShifts_no p o c s n h hn w
    · exact windowShifts_yes p o c s n _ _ h (fun k => hn (.inl k)) (fun k => hn (.inr k)) rfl rfl w
  · exact windowShifts_wrong p o c s n h w

end Go.Proofs.Ytmkdbmeaiehnbaa.V
