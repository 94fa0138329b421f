/-
  DERIVED. The walk of the law WindowMeets.
-/
import Derived.Test.YtmkdbmeaiehnbaaWinLaw
namespace Go.Proofs.Ytmkdbmeaiehnbaa.V
open Go.RowKit
set_option maxRecDepth 8000

theorem two_made (w : World) (p o c s p' o' c' s' : Int) : Bs ((w.alloc (.cells #[.int .i64 p, .int .i64 o, .int .i64 c, .int .i64 s] 23)).alloc (.cells #[.int .i64 p', .int .i64 o', .int .i64 c', .int .i64 s'] 23)) (w.heap.size + 1) p' o' c' s' := by
  have := Bs.made (w.alloc (.cells #[.int .i64 p, .int .i64 o, .int .i64 c, .int .i64 s] 23)) p' o' c' s'
  rwa [show (w.alloc (.cells #[.int .i64 p, .int .i64 o, .int .i64 c, .int .i64 s] 23)).heap.size = w.heap.size + 1 by simp] at this
theorem mO_comm (x y : Int) : mO x y = mO y x := by unfold mO; split <;> split <;> omega
theorem mC_comm (x y : Int) : mC x y = mC y x := by unfold mC; split <;> split <;> omega
theorem mO_ge (x y : Int) : x ≤ mO x y ∧ y ≤ mO x y ∧ (mO x y = x ∨ mO x y = y) := by unfold mO; split <;> omega
theorem mC_le (x y : Int) : mC x y ≤ x ∧ mC x y ≤ y ∧ (mC x y = x ∨ mC x y = y) := by unfold mC; split <;> omega
set_option maxHeartbeats 1600000 in
theorem windowMeets_no1 (p o c s p' o' c' s' at_ : Int) (h : ¬ Rt p o c s) (w : World) : Calls Try.prog 6 #[.agg #[.int .i64 p, .int .i64 o, .int .i64 c, .int .i64 s], .agg #[.int .i64 p', .int .i64 o', .int .i64 c', .int .i64 s'], .int .i64 at_] w fun e w' => e = .returned (.bool true) ∧ Below w.heap.size w w' := by
  have KW := Lib.hid awake_n
  have K0 := Lib.hid (fun w => stop_no p o c s h w)
  have GM := Lib.hid (two_made w p o c s p' o' c' s')
  clear h
  go_enter Try.func6, Try.ntmps6
  go_wp2_with fail
  refine (K0.out _).mono ?_
  rintro e w1 ⟨rfl, b1⟩
  have B1 := Lib.hid (over (w := w) (by go_grown) b1)
  have hG := GM.out
  have H1 := Lib.hid (((Bs.made w p o c s).alloc (.cells #[.int .i64 p', .int .i64 o', .int .i64 c', .int .i64 s'] 23)).below b1)
  have G1 := Lib.hid ((hG).below b1)
  clear b1 hG
  have hg0 := H1.out.c0
  have hg1 := H1.out.c1
  have hg2 := H1.out.c2
  have hg3 := H1.out.c3
  have gg0 := G1.out.c0
  have gg1 := G1.out.c1
  have gg2 := G1.out.c2
  have gg3 := G1.out.c3
  go_wp2_with fail
  refine (KW.out _).mono ?_
  rintro e w2 ⟨rfl, b2⟩
  have B2 := Lib.hid (over B1.out b2)
  have H2 := Lib.hid (H1.out.below b2)
  have G2 := Lib.hid (G1.out.below b2)
  clear b2 B1 H1 G1 hg0 hg1 hg2 hg3 gg0 gg1 gg2 gg3
  have hg0 := H2.out.c0
  have hg1 := H2.out.c1
  have hg2 := H2.out.c2
  have hg3 := H2.out.c3
  have gg0 := G2.out.c0
  have gg1 := G2.out.c1
  have gg2 := G2.out.c2
  have gg3 := G2.out.c3
  go_wp2_with fail
  go_ret
  exact ⟨rfl, B2.out⟩
set_option maxHeartbeats 1600000 in
theorem windowMeets_no2 (p o c s p' o' c' s' at_ : Int) (h1 : Rt p o c s) (h : ¬ Rt p' o' c' s') (w : World) : Calls Try.prog 6 #[.agg #[.int .i64 p, .int .i64 o, .int .i64 c, .int .i64 s], .agg #[.int .i64 p', .int .i64 o', .int .i64 c', .int .i64 s'], .int .i64 at_] w fun e w' => e = .returned (.bool true) ∧ Below w.heap.size w w' := by
  have KW := Lib.hid awake_n
  have K0 := Lib.hid (fun w => stop_yes p o c s h1 w)
  have K1 := Lib.hid (fun w => stop_no p' o' c' s' h w)
  have GM := Lib.hid (two_made w p o c s p' o' c' s')
  clear h h1
  go_enter Try.func6, Try.ntmps6
  go_wp2_with fail
  refine (K0.out _).mono ?_
  rintro e w1 ⟨rfl, b1⟩
  have B1 := Lib.hid (over (w := w) (by go_grown) b1)
  have hG := GM.out
  have H1 := Lib.hid (((Bs.made w p o c s).alloc (.cells #[.int .i64 p', .int .i64 o', .int .i64 c', .int .i64 s'] 23)).below b1)
  have G1 := Lib.hid ((hG).below b1)
  clear b1 hG
  have hg0 := H1.out.c0
  have hg1 := H1.out.c1
  have hg2 := H1.out.c2
  have hg3 := H1.out.c3
  have gg0 := G1.out.c0
  have gg1 := G1.out.c1
  have gg2 := G1.out.c2
  have gg3 := G1.out.c3
  go_wp2_with fail
  refine (K1.out _).mono ?_
  rintro e w2 ⟨rfl, b2⟩
  have B2 := Lib.hid (over B1.out b2)
  have H2 := Lib.hid (H1.out.below b2)
  have G2 := Lib.hid (G1.out.below b2)
  clear b2 B1 H1 G1 hg0 hg1 hg2 hg3 gg0 gg1 gg2 gg3
  have hg0 := H2.out.c0
  have hg1 := H2.out.c1
  have hg2 := H2.out.c2
  have hg3 := H2.out.c3
  have gg0 := G2.out.c0
  have gg1 := G2.out.c1
  have gg2 := G2.out.c2
  have gg3 := G2.out.c3
  go_wp2_with fail
  refine (KW.out _).mono ?_
  rintro e w3 ⟨rfl, b3⟩
  have B3 := Lib.hid (over B2.out b3)
  have H3 := Lib.hid (H2.out.below b3)
  have G3 := Lib.hid (G2.out.below b3)
  clear b3 B2 H2 G2 hg0 hg1 hg2 hg3 gg0 gg1 gg2 gg3
  have hg0 := H3.out.c0
  have hg1 := H3.out.c1
  have hg2 := H3.out.c2
  have hg3 := H3.out.c3
  have gg0 := G3.out.c0
  have gg1 := G3.out.c1
  have gg2 := G3.out.c2
  have gg3 := G3.out.c3
  go_wp2_with fail
  go_ret
  exact ⟨rfl, B3.out⟩
set_option maxHeartbeats 4000000 in
theorem windowMeets_apart (p o c s p' o' c' s' at_ : Int) (h1 : Rt p o c s) (h2 : Rt p' o' c' s') (hM : mC c c' < mO o o') (w : World) : Calls Try.prog 6 #[.agg #[.int .i64 p, .int .i64 o, .int .i64 c, .int .i64 s], .agg #[.int .i64 p', .int .i64 o', .int .i64 c', .int .i64 s'], .int .i64 at_] w fun e w' => e = .returned (.bool true) ∧ Below w.heap.size w w' := by
  have KW := Lib.hid awake_n
  have K0 := Lib.hid (fun w => stop_yes p o c s h1 w)
  have K1 := Lib.hid (fun w => stop_yes p' o' c' s' h2 w)
  have K2 := Lib.hid (fun w => meet_n p o c s p' o' c' s' w)
  have K3 := Lib.hid (fun w => refMeet_n p o c s p' o' c' s' w)
  have K4 := Lib.hid (fun w => meet_n p' o' c' s' p o c s w)
  rw [mO_comm o' o, mC_comm c' c] at K4
  rw [if_pos hM] at K2 K3 K4
  have GM := Lib.hid (two_made w p o c s p' o' c' s')
  have hO := mO_ge o o'
  have hC := mC_le c c'
  obtain ⟨hp, ho, hoc, hc, hs, hs2⟩ := h1
  obtain ⟨hp', ho', hoc', hc', hs', hs2'⟩ := h2
  generalize mO o o' = O at *
  generalize mC c c' = C at *
  by_cases h1 : at_ < o
  · skip
    clear hO hC
    go_enter Try.func6, Try.ntmps6
    go_wp2_with fail
    refine (K0.out _).mono ?_
    rintro e w1 ⟨rfl, b1⟩
    have B1 := Lib.hid (over (w := w) (by go_grown) b1)
    have hG := GM.out
    have H1 := Lib.hid (((Bs.made w p o c s).alloc (.cells #[.int .i64 p', .int .i64 o', .int .i64 c', .int .i64 s'] 23)).below b1)
    have G1 := Lib.hid ((hG).below b1)
    clear b1 hG
    have hg0 := H1.out.c0
    have hg1 := H1.out.c1
    have hg2 := H1.out.c2
    have hg3 := H1.out.c3
    have gg0 := G1.out.c0
    have gg1 := G1.out.c1
    have gg2 := G1.out.c2
    have gg3 := G1.out.c3
    go_wp2_with fail
    refine (K1.out _).mono ?_
    rintro e w2 ⟨rfl, b2⟩
    have B2 := Lib.hid (over B1.out b2)
    have H2 := Lib.hid (H1.out.below b2)
    have G2 := Lib.hid (G1.out.below b2)
    clear b2 B1 H1 G1 hg0 hg1 hg2 hg3 gg0 gg1 gg2 gg3
    have hg0 := H2.out.c0
    have hg1 := H2.out.c1
    have hg2 := H2.out.c2
    have hg3 := H2.out.c3
    have gg0 := G2.out.c0
    have gg1 := G2.out.c1
    have gg2 := G2.out.c2
    have gg3 := G2.out.c3
    go_wp2_with fail
    refine (K2.out _).mono ?_
    rintro e w3 ⟨rfl, b3⟩
    have B3 := Lib.hid (over B2.out b3)
    have H3 := Lib.hid (H2.out.below b3)
    have G3 := Lib.hid (G2.out.below b3)
    clear b3 B2 H2 G2 hg0 hg1 hg2 hg3 gg0 gg1 gg2 gg3
    have H3 := Lib.hid (H3.out.alloc (.cells #[.int .i64 0, .int .i64 0, .int .i64 0, .int .i64 0] 23))
    have G3 := Lib.hid (G3.out.alloc (.cells #[.int .i64 0, .int .i64 0, .int .i64 0, .int .i64 0] 23))
    have M3 := Lib.hid (Bs.made w3 0 0 0 0)
    have B3 := Lib.hid (over B3.out (below_alloc w3 (.cells #[.int .i64 0, .int .i64 0, .int .i64 0, .int .i64 0] 23)))
    have hg0 := H3.out.c0
    have hg1 := H3.out.c1
    have hg2 := H3.out.c2
    have hg3 := H3.out.c3
    have gg0 := G3.out.c0
    have gg1 := G3.out.c1
    have gg2 := G3.out.c2
    have gg3 := G3.out.c3
    have mg0 := M3.out.c0
    have mg1 := M3.out.c1
    have mg2 := M3.out.c2
    have mg3 := M3.out.c3
    go_wp2_with fail
    refine (K3.out _).mono ?_
    rintro e w4 ⟨rfl, b4⟩
    have B4 := Lib.hid (over B3.out b4)
    have H4 := Lib.hid (H3.out.below b4)
    have G4 := Lib.hid (G3.out.below b4)
    have M4 := Lib.hid (M3.out.below b4)
    clear b4 B3 H3 G3 M3 hg0 hg1 hg2 hg3 gg0 gg1 gg2 gg3 mg0 mg1 mg2 mg3
    have H4 := Lib.hid (H4.out.alloc (.cells #[.int .i64 0, .int .i64 0, .int .i64 0, .int .i64 0] 23))
    have G4 := Lib.hid (G4.out.alloc (.cells #[.int .i64 0, .int .i64 0, .int .i64 0, .int .i64 0] 23))
    have M4 := Lib.hid (M4.out.alloc (.cells #[.int .i64 0, .int .i64 0, .int .i64 0, .int .i64 0] 23))
    have N4 := Lib.hid (Bs.made w4 0 0 0 0)
    have B4 := Lib.hid (over B4.out (below_alloc w4 (.cells #[.int .i64 0, .int .i64 0, .int .i64 0, .int .i64 0] 23)))
    have hg0 := H4.out.c0
    have hg1 := H4.out.c1
    have hg2 := H4.out.c2
    have hg3 := H4.out.c3
    have gg0 := G4.out.c0
    have gg1 := G4.out.c1
    have gg2 := G4.out.c2
    have gg3 := G4.out.c3
    have mg0 := M4.out.c0
    have mg1 := M4.out.c1
    have mg2 := M4.out.c2
    have mg3 := M4.out.c3
    have ng0 := N4.out.c0
    have ng1 := N4.out.c1
    have ng2 := N4.out.c2
    have ng3 := N4.out.c3
    go_wp2_with fail
    refine (K4.out _).mono ?_
    rintro e w5 ⟨rfl, b5⟩
    have B5 := Lib.hid (over B4.out b5)
    have H5 := Lib.hid (H4.out.below b5)
    have G5 := Lib.hid (G4.out.below b5)
    have M5 := Lib.hid (M4.out.below b5)
    have N5 := Lib.hid (N4.out.below b5)
    clear b5 B4 H4 G4 M4 N4 hg0 hg1 hg2 hg3 gg0 gg1 gg2 gg3 mg0 mg1 mg2 mg3 ng0 ng1 ng2 ng3
    have H5 := Lib.hid (H5.out.alloc (.cells #[.int .i64 0, .int .i64 0, .int .i64 0, .int .i64 0] 23))
    have G5 := Lib.hid (G5.out.alloc (.cells #[.int .i64 0, .int .i64 0, .int .i64 0, .int .i64 0] 23))
    have M5 := Lib.hid (M5.out.alloc (.cells #[.int .i64 0, .int .i64 0, .int .i64 0, .int .i64 0] 23))
    have N5 := Lib.hid (N5.out.alloc (.cells #[.int .i64 0, .int .i64 0, .int .i64 0, .int .i64 0] 23))
    have X5 := Lib.hid (Bs.made w5 0 0 0 0)
    have B5 := Lib.hid (over B5.out (below_alloc w5 (.cells #[.int .i64 0, .int .i64 0, .int .i64 0, .int .i64 0] 23)))
    have hg0 := H5.out.c0
    have hg1 := H5.out.c1
    have hg2 := H5.out.c2
    have hg3 := H5.out.c3
    have gg0 := G5.out.c0
    have gg1 := G5.out.c1
    have gg2 := G5.out.c2
    have gg3 := G5.out.c3
    have mg0 := M5.out.c0
    have mg1 := M5.out.c1
    have mg2 := M5.out.c2
    have mg3 := M5.out.c3
    have ng0 := N5.out.c0
    have ng1 := N5.out.c1
    have ng2 := N5.out.c2
    have ng3 := N5.out.c3
    have xg0 := X5.out.c0
    have xg1 := X5.out.c1
    have xg2 := X5.out.c2
    have xg3 := X5.out.c3
    go_wp2_with fail
    refine (KW.out _).mono ?_
    rintro e w6 ⟨rfl, b6⟩
    have B6 := Lib.hid (over B5.out b6)
    have H6 := Lib.hid (H5.out.below b6)
    have G6 := Lib.hid (G5.out.below b6)
    have M6 := Lib.hid (M5.out.below b6)
    have N6 := Lib.hid (N5.out.below b6)
    have X6 := Lib.hid (X5.out.below b6)
    clear b6 B5 H5 G5 M5 N5 X5 hg0 hg1 hg2 hg3 gg0 gg1 gg2 gg3 mg0 mg1 mg2 mg3 ng0 ng1 ng2 ng3 xg0 xg1 xg2 xg3
    have hg0 := H6.out.c0
    have hg1 := H6.out.c1
    have hg2 := H6.out.c2
    have hg3 := H6.out.c3
    have gg0 := G6.out.c0
    have gg1 := G6.out.c1
    have gg2 := G6.out.c2
    have gg3 := G6.out.c3
    have mg0 := M6.out.c0
    have mg1 := M6.out.c1
    have mg2 := M6.out.c2
    have mg3 := M6.out.c3
    have ng0 := N6.out.c0
    have ng1 := N6.out.c1
    have ng2 := N6.out.c2
    have ng3 := N6.out.c3
    have xg0 := X6.out.c0
    have xg1 := X6.out.c1
    have xg2 := X6.out.c2
    have xg3 := X6.out.c3
    go_wp2_with fail
    go_ret
    exact ⟨rfl, B6.out⟩
  · by_cases h2 : c < at_
    · skip
      skip
      clear hO hC
      go_enter Try.func6, Try.ntmps6
      go_wp2_with fail
      refine (K0.out _).mono ?_
      rintro e w1 ⟨rfl, b1⟩
      have B1 := Lib.hid (over (w := w) (by go_grown) b1)
      have hG := GM.out
      have H1 := Lib.hid (((Bs.made w p o c s).alloc (.cells #[.int .i64 p', .int .i64 o', .int .i64 c', .int .i64 s'] 23)).below b1)
      have G1 := Lib.hid ((hG).below b1)
      clear b1 hG
      have hg0 := H1.out.c0
      have hg1 := H1.out.c1
      have hg2 := H1.out.c2
      have hg3 := H1.out.c3
      have gg0 := G1.out.c0
      have gg1 := G1.out.c1
      have gg2 := G1.out.c2
      have gg3 := G1.out.c3
      go_wp2_with fail
      refine (K1.out _).mono ?_
      rintro e w2 ⟨rfl, b2⟩
      have B2 := Lib.hid (over B1.out b2)
      have H2 := Lib.hid (H1.out.below b2)
      have G2 := Lib.hid (G1.out.below b2)
      clear b2 B1 H1 G1 hg0 hg1 hg2 hg3 gg0 gg1 gg2 gg3
      have hg0 := H2.out.c0
      have hg1 := H2.out.c1
      have hg2 := H2.out.c2
      have hg3 := H2.out.c3
      have gg0 := G2.out.c0
      have gg1 := G2.out.c1
      have gg2 := G2.out.c2
      have gg3 := G2.out.c3
      go_wp2_with fail
      refine (K2.out _).mono ?_
      rintro e w3 ⟨rfl, b3⟩
      have B3 := Lib.hid (over B2.out b3)
      have H3 := Lib.hid (H2.out.below b3)
      have G3 := Lib.hid (G2.out.below b3)
      clear b3 B2 H2 G2 hg0 hg1 hg2 hg3 gg0 gg1 gg2 gg3
      have H3 := Lib.hid (H3.out.alloc (.cells #[.int .i64 0, .int .i64 0, .int .i64 0, .int .i64 0] 23))
      have G3 := Lib.hid (G3.out.alloc (.cells #[.int .i64 0, .int .i64 0, .int .i64 0, .int .i64 0] 23))
      have M3 := Lib.hid (Bs.made w3 0 0 0 0)
      have B3 := Lib.hid (over B3.out (below_alloc w3 (.cells #[.int .i64 0, .int .i64 0, .int .i64 0, .int .i64 0] 23)))
      have hg0 := H3.out.c0
      have hg1 := H3.out.c1
      have hg2 := H3.out.c2
      have hg3 := H3.out.c3
      have gg0 := G3.out.c0
      have gg1 := G3.out.c1
      have gg2 := G3.out.c2
      have gg3 := G3.out.c3
      have mg0 := M3.out.c0
      have mg1 := M3.out.c1
      have mg2 := M3.out.c2
      have mg3 := M3.out.c3
      go_wp2_with fail
      refine (K3.out _).mono ?_
      rintro e w4 ⟨rfl, b4⟩
      have B4 := Lib.hid (over B3.out b4)
      have H4 := Lib.hid (H3.out.below b4)
      have G4 := Lib.hid (G3.out.below b4)
      have M4 := Lib.hid (M3.out.below b4)
      clear b4 B3 H3 G3 M3 hg0 hg1 hg2 hg3 gg0 gg1 gg2 gg3 mg0 mg1 mg2 mg3
      have H4 := Lib.hid (H4.out.alloc (.cells #[.int .i64 0, .int .i64 0, .int .i64 0, .int .i64 0] 23))
      have G4 := Lib.hid (G4.out.alloc (.cells #[.int .i64 0, .int .i64 0, .int .i64 0, .int .i64 0] 23))
      have M4 := Lib.hid (M4.out.alloc (.cells #[.int .i64 0, .int .i64 0, .int .i64 0, .int .i64 0] 23))
      have N4 := Lib.hid (Bs.made w4 0 0 0 0)
      have B4 := Lib.hid (over B4.out (below_alloc w4 (.cells #[.int .i64 0, .int .i64 0, .int .i64 0, .int .i64 0] 23)))
      have hg0 := H4.out.c0
      have hg1 := H4.out.c1
      have hg2 := H4.out.c2
      have hg3 := H4.out.c3
      have gg0 := G4.out.c0
      have gg1 := G4.out.c1
      have gg2 := G4.out.c2
      have gg3 := G4.out.c3
      have mg0 := M4.out.c0
      have mg1 := M4.out.c1
      have mg2 := M4.out.c2
      have mg3 := M4.out.c3
      have ng0 := N4.out.c0
      have ng1 := N4.out.c1
      have ng2 := N4.out.c2
      have ng3 := N4.out.c3
      go_wp2_with fail
      refine (K4.out _).mono ?_
      rintro e w5 ⟨rfl, b5⟩
      have B5 := Lib.hid (over B4.out b5)
      have H5 := Lib.hid (H4.out.below b5)
      have G5 := Lib.hid (G4.out.below b5)
      have M5 := Lib.hid (M4.out.below b5)
      have N5 := Lib.hid (N4.out.below b5)
      clear b5 B4 H4 G4 M4 N4 hg0 hg1 hg2 hg3 gg0 gg1 gg2 gg3 mg0 mg1 mg2 mg3 ng0 ng1 ng2 ng3
      have H5 := Lib.hid (H5.out.alloc (.cells #[.int .i64 0, .int .i64 0, .int .i64 0, .int .i64 0] 23))
      have G5 := Lib.hid (G5.out.alloc (.cells #[.int .i64 0, .int .i64 0, .int .i64 0, .int .i64 0] 23))
      have M5 := Lib.hid (M5.out.alloc (.cells #[.int .i64 0, .int .i64 0, .int .i64 0, .int .i64 0] 23))
      have N5 := Lib.hid (N5.out.alloc (.cells #[.int .i64 0, .int .i64 0, .int .i64 0, .int .i64 0] 23))
      have X5 := Lib.hid (Bs.made w5 0 0 0 0)
      have B5 := Lib.hid (over B5.out (below_alloc w5 (.cells #[.int .i64 0, .int .i64 0, .int .i64 0, .int .i64 0] 23)))
      have hg0 := H5.out.c0
      have hg1 := H5.out.c1
      have hg2 := H5.out.c2
      have hg3 := H5.out.c3
      have gg0 := G5.out.c0
      have gg1 := G5.out.c1
      have gg2 := G5.out.c2
      have gg3 := G5.out.c3
      have mg0 := M5.out.c0
      have mg1 := M5.out.c1
      have mg2 := M5.out.c2
      have mg3 := M5.out.c3
      have ng0 := N5.out.c0
      have ng1 := N5.out.c1
      have ng2 := N5.out.c2
      have ng3 := N5.out.c3
      have xg0 := X5.out.c0
      have xg1 := X5.out.c1
      have xg2 := X5.out.c2
      have xg3 := X5.out.c3
      go_wp2_with fail
      refine (KW.out _).mono ?_
      rintro e w6 ⟨rfl, b6⟩
      have B6 := Lib.hid (over B5.out b6)
      have H6 := Lib.hid (H5.out.below b6)
      have G6 := Lib.hid (G5.out.below b6)
      have M6 := Lib.hid (M5.out.below b6)
      have N6 := Lib.hid (N5.out.below b6)
      have X6 := Lib.hid (X5.out.below b6)
      clear b6 B5 H5 G5 M5 N5 X5 hg0 hg1 hg2 hg3 gg0 gg1 gg2 gg3 mg0 mg1 mg2 mg3 ng0 ng1 ng2 ng3 xg0 xg1 xg2 xg3
      have hg0 := H6.out.c0
      have hg1 := H6.out.c1
      have hg2 := H6.out.c2
      have hg3 := H6.out.c3
      have gg0 := G6.out.c0
      have gg1 := G6.out.c1
      have gg2 := G6.out.c2
      have gg3 := G6.out.c3
      have mg0 := M6.out.c0
      have mg1 := M6.out.c1
      have mg2 := M6.out.c2
      have mg3 := M6.out.c3
      have ng0 := N6.out.c0
      have ng1 := N6.out.c1
      have ng2 := N6.out.c2
      have ng3 := N6.out.c3
      have xg0 := X6.out.c0
      have xg1 := X6.out.c1
      have xg2 := X6.out.c2
      have xg3 := X6.out.c3
      go_wp2_with fail
      go_ret
      exact ⟨rfl, B6.out⟩
    · by_cases h3 : at_ < o'
      · skip
        clear hO hC
        go_enter Try.func6, Try.ntmps6
        go_wp2_with fail
        refine (K0.out _).mono ?_
        rintro e w1 ⟨rfl, b1⟩
        have B1 := Lib.hid (over (w := w) (by go_grown) b1)
        have hG := GM.out
        have H1 := Lib.hid (((Bs.made w p o c s).alloc (.cells #[.int .i64 p', .int .i64 o', .int .i64 c', .int .i64 s'] 23)).below b1)
        have G1 := Lib.hid ((hG).below b1)
        clear b1 hG
        have hg0 := H1.out.c0
        have hg1 := H1.out.c1
        have hg2 := H1.out.c2
        have hg3 := H1.out.c3
        have gg0 := G1.out.c0
        have gg1 := G1.out.c1
        have gg2 := G1.out.c2
        have gg3 := G1.out.c3
        go_wp2_with fail
        refine (K1.out _).mono ?_
        rintro e w2 ⟨rfl, b2⟩
        have B2 := Lib.hid (over B1.out b2)
        have H2 := Lib.hid (H1.out.below b2)
        have G2 := Lib.hid (G1.out.below b2)
        clear b2 B1 H1 G1 hg0 hg1 hg2 hg3 gg0 gg1 gg2 gg3
        have hg0 := H2.out.c0
        have hg1 := H2.out.c1
        have hg2 := H2.out.c2
        have hg3 := H2.out.c3
        have gg0 := G2.out.c0
        have gg1 := G2.out.c1
        have gg2 := G2.out.c2
        have gg3 := G2.out.c3
        go_wp2_with fail
        refine (K2.out _).mono ?_
        rintro e w3 ⟨rfl, b3⟩
        have B3 := Lib.hid (over B2.out b3)
        have H3 := Lib.hid (H2.out.below b3)
        have G3 := Lib.hid (G2.out.below b3)
        clear b3 B2 H2 G2 hg0 hg1 hg2 hg3 gg0 gg1 gg2 gg3
        have H3 := Lib.hid (H3.out.alloc (.cells #[.int .i64 0, .int .i64 0, .int .i64 0, .int .i64 0] 23))
        have G3 := Lib.hid (G3.out.alloc (.cells #[.int .i64 0, .int .i64 0, .int .i64 0, .int .i64 0] 23))
        have M3 := Lib.hid (Bs.made w3 0 0 0 0)
        have B3 := Lib.hid (over B3.out (below_alloc w3 (.cells #[.int .i64 0, .int .i64 0, .int .i64 0, .int .i64 0] 23)))
        have hg0 := H3.out.c0
        have hg1 := H3.out.c1
        have hg2 := H3.out.c2
        have hg3 := H3.out.c3
        have gg0 := G3.out.c0
        have gg1 := G3.out.c1
        have gg2 := G3.out.c2
        have gg3 := G3.out.c3
        have mg0 := M3.out.c0
        have mg1 := M3.out.c1
        have mg2 := M3.out.c2
        have mg3 := M3.out.c3
        go_wp2_with fail
        refine (K3.out _).mono ?_
        rintro e w4 ⟨rfl, b4⟩
        have B4 := Lib.hid (over B3.out b4)
        have H4 := Lib.hid (H3.out.below b4)
        have G4 := Lib.hid (G3.out.below b4)
        have M4 := Lib.hid (M3.out.below b4)
        clear b4 B3 H3 G3 M3 hg0 hg1 hg2 hg3 gg0 gg1 gg2 gg3 mg0 mg1 mg2 mg3
        have H4 := Lib.hid (H4.out.alloc (.cells #[.int .i64 0, .int .i64 0, .int .i64 0, .int .i64 0] 23))
        have G4 := Lib.hid (G4.out.alloc (.cells #[.int .i64 0, .int .i64 0, .int .i64 0, .int .i64 0] 23))
        have M4 := Lib.hid (M4.out.alloc (.cells #[.int .i64 0, .int .i64 0, .int .i64 0, .int .i64 0] 23))
        have N4 := Lib.hid (Bs.made w4 0 0 0 0)
        have B4 := Lib.hid (over B4.out (below_alloc w4 (.cells #[.int .i64 0, .int .i64 0, .int .i64 0, .int .i64 0] 23)))
        have hg0 := H4.out.c0
        have hg1 := H4.out.c1
        have hg2 := H4.out.c2
        have hg3 := H4.out.c3
        have gg0 := G4.out.c0
        have gg1 := G4.out.c1
        have gg2 := G4.out.c2
        have gg3 := G4.out.c3
        have mg0 := M4.out.c0
        have mg1 := M4.out.c1
        have mg2 := M4.out.c2
        have mg3 := M4.out.c3
        have ng0 := N4.out.c0
        have ng1 := N4.out.c1
        have ng2 := N4.out.c2
        have ng3 := N4.out.c3
        go_wp2_with fail
        refine (K4.out _).mono ?_
        rintro e w5 ⟨rfl, b5⟩
        have B5 := Lib.hid (over B4.out b5)
        have H5 := Lib.hid (H4.out.below b5)
        have G5 := Lib.hid (G4.out.below b5)
        have M5 := Lib.hid (M4.out.below b5)
        have N5 := Lib.hid (N4.out.below b5)
        clear b5 B4 H4 G4 M4 N4 hg0 hg1 hg2 hg3 gg0 gg1 gg2 gg3 mg0 mg1 mg2 mg3 ng0 ng1 ng2 ng3
        have H5 := Lib.hid (H5.out.alloc (.cells #[.int .i64 0, .int .i64 0, .int .i64 0, .int .i64 0] 23))
        have G5 := Lib.hid (G5.out.alloc (.cells #[.int .i64 0, .int .i64 0, .int .i64 0, .int .i64 0] 23))
        have M5 := Lib.hid (M5.out.alloc (.cells #[.int .i64 0, .int .i64 0, .int .i64 0, .int .i64 0] 23))
        have N5 := Lib.hid (N5.out.alloc (.cells #[.int .i64 0, .int .i64 0, .int .i64 0, .int .i64 0] 23))
        have X5 := Lib.hid (Bs.made w5 0 0 0 0)
        have B5 := Lib.hid (over B5.out (below_alloc w5 (.cells #[.int .i64 0, .int .i64 0, .int .i64 0, .int .i64 0] 23)))
        have hg0 := H5.out.c0
        have hg1 := H5.out.c1
        have hg2 := H5.out.c2
        have hg3 := H5.out.c3
        have gg0 := G5.out.c0
        have gg1 := G5.out.c1
        have gg2 := G5.out.c2
        have gg3 := G5.out.c3
        have mg0 := M5.out.c0
        have mg1 := M5.out.c1
        have mg2 := M5.out.c2
        have mg3 := M5.out.c3
        have ng0 := N5.out.c0
        have ng1 := N5.out.c1
        have ng2 := N5.out.c2
        have ng3 := N5.out.c3
        have xg0 := X5.out.c0
        have xg1 := X5.out.c1
        have xg2 := X5.out.c2
        have xg3 := X5.out.c3
        go_wp2_with fail
        refine (KW.out _).mono ?_
        rintro e w6 ⟨rfl, b6⟩
        have B6 := Lib.hid (over B5.out b6)
        have H6 := Lib.hid (H5.out.below b6)
        have G6 := Lib.hid (G5.out.below b6)
        have M6 := Lib.hid (M5.out.below b6)
        have N6 := Lib.hid (N5.out.below b6)
        have X6 := Lib.hid (X5.out.below b6)
        clear b6 B5 H5 G5 M5 N5 X5 hg0 hg1 hg2 hg3 gg0 gg1 gg2 gg3 mg0 mg1 mg2 mg3 ng0 ng1 ng2 ng3 xg0 xg1 xg2 xg3
        have hg0 := H6.out.c0
        have hg1 := H6.out.c1
        have hg2 := H6.out.c2
        have hg3 := H6.out.c3
        have gg0 := G6.out.c0
        have gg1 := G6.out.c1
        have gg2 := G6.out.c2
        have gg3 := G6.out.c3
        have mg0 := M6.out.c0
        have mg1 := M6.out.c1
        have mg2 := M6.out.c2
        have mg3 := M6.out.c3
        have ng0 := N6.out.c0
        have ng1 := N6.out.c1
        have ng2 := N6.out.c2
        have ng3 := N6.out.c3
        have xg0 := X6.out.c0
        have xg1 := X6.out.c1
        have xg2 := X6.out.c2
        have xg3 := X6.out.c3
        go_wp2_with fail
        go_ret
        exact ⟨rfl, B6.out⟩
      · by_cases h4 : c' < at_
        · skip
          skip
          clear hO hC
          go_enter Try.func6, Try.ntmps6
          go_wp2_with fail
          refine (K0.out _).mono ?_
          rintro e w1 ⟨rfl, b1⟩
          have B1 := Lib.hid (over (w := w) (by go_grown) b1)
          have hG := GM.out
          have H1 := Lib.hid (((Bs.made w p o c s).alloc (.cells #[.int .i64 p', .int .i64 o', .int .i64 c', .int .i64 s'] 23)).below b1)
          have G1 := Lib.hid ((hG).below b1)
          clear b1 hG
          have hg0 := H1.out.c0
          have hg1 := H1.out.c1
          have hg2 := H1.out.c2
          have hg3 := H1.out.c3
          have gg0 := G1.out.c0
          have gg1 := G1.out.c1
          have gg2 := G1.out.c2
          have gg3 := G1.out.c3
          go_wp2_with fail
          refine (K1.out _).mono ?_
          rintro e w2 ⟨rfl, b2⟩
          have B2 := Lib.hid (over B1.out b2)
          have H2 := Lib.hid (H1.out.below b2)
          have G2 := Lib.hid (G1.out.below b2)
          clear b2 B1 H1 G1 hg0 hg1 hg2 hg3 gg0 gg1 gg2 gg3
          have hg0 := H2.out.c0
          have hg1 := H2.out.c1
          have hg2 := H2.out.c2
          have hg3 := H2.out.c3
          have gg0 := G2.out.c0
          have gg1 := G2.out.c1
          have gg2 := G2.out.c2
          have gg3 := G2.out.c3
          go_wp2_with fail
          refine (K2.out _).mono ?_
          rintro e w3 ⟨rfl, b3⟩
          have B3 := Lib.hid (over B2.out b3)
          have H3 := Lib.hid (H2.out.below b3)
          have G3 := Lib.hid (G2.out.below b3)
          clear b3 B2 H2 G2 hg0 hg1 hg2 hg3 gg0 gg1 gg2 gg3
          have H3 := Lib.hid (H3.out.alloc (.cells #[.int .i64 0, .int .i64 0, .int .i64 0, .int .i64 0] 23))
          have G3 := Lib.hid (G3.out.alloc (.cells #[.int .i64 0, .int .i64 0, .int .i64 0, .int .i64 0] 23))
          have M3 := Lib.hid (Bs.made w3 0 0 0 0)
          have B3 := Lib.hid (over B3.out (below_alloc w3 (.cells #[.int .i64 0, .int .i64 0, .int .i64 0, .int .i64 0] 23)))
          have hg0 := H3.out.c0
          have hg1 := H3.out.c1
          have hg2 := H3.out.c2
          have hg3 := H3.out.c3
          have gg0 := G3.out.c0
          have gg1 := G3.out.c1
          have gg2 := G3.out.c2
          have gg3 := G3.out.c3
          have mg0 := M3.out.c0
          have mg1 := M3.out.c1
          have mg2 := M3.out.c2
          have mg3 := M3.out.c3
          go_wp2_with fail
          refine (K3.out _).mono ?_
          rintro e w4 ⟨rfl, b4⟩
          have B4 := Lib.hid (over B3.out b4)
          have H4 := Lib.hid (H3.out.below b4)
          have G4 := Lib.hid (G3.out.below b4)
          have M4 := Lib.hid (M3.out.below b4)
          clear b4 B3 H3 G3 M3 hg0 hg1 hg2 hg3 gg0 gg1 gg2 gg3 mg0 mg1 mg2 mg3
          have H4 := Lib.hid (H4.out.alloc (.cells #[.int .i64 0, .int .i64 0, .int .i64 0, .int .i64 0] 23))
          have G4 := Lib.hid (G4.out.alloc (.cells #[.int .i64 0, .int .i64 0, .int .i64 0, .int .i64 0] 23))
          have M4 := Lib.hid (M4.out.alloc (.cells #[.int .i64 0, .int .i64 0, .int .i64 0, .int .i64 0] 23))
          have N4 := Lib.hid (Bs.made w4 0 0 0 0)
          have B4 := Lib.hid (over B4.out (below_alloc w4 (.cells #[.int .i64 0, .int .i64 0, .int .i64 0, .int .i64 0] 23)))
          have hg0 := H4.out.c0
          have hg1 := H4.out.c1
          have hg2 := H4.out.c2
          have hg3 := H4.out.c3
          have gg0 := G4.out.c0
          have gg1 := G4.out.c1
          have gg2 := G4.out.c2
          have gg3 := G4.out.c3
          have mg0 := M4.out.c0
          have mg1 := M4.out.c1
          have mg2 := M4.out.c2
          have mg3 := M4.out.c3
          have ng0 := N4.out.c0
          have ng1 := N4.out.c1
          have ng2 := N4.out.c2
          have ng3 := N4.out.c3
          go_wp2_with fail
          refine (K4.out _).mono ?_
          rintro e w5 ⟨rfl, b5⟩
          have B5 := Lib.hid (over B4.out b5)
          have H5 := Lib.hid (H4.out.below b5)
          have G5 := Lib.hid (G4.out.below b5)
          have M5 := Lib.hid (M4.out.below b5)
          have N5 := Lib.hid (N4.out.below b5)
          clear b5 B4 H4 G4 M4 N4 hg0 hg1 hg2 hg3 gg0 gg1 gg2 gg3 mg0 mg1 mg2 mg3 ng0 ng1 ng2 ng3
          have H5 := Lib.hid (H5.out.alloc (.cells #[.int .i64 0, .int .i64 0, .int .i64 0, .int .i64 0] 23))
          have G5 := Lib.hid (G5.out.alloc (.cells #[.int .i64 0, .int .i64 0, .int .i64 0, .int .i64 0] 23))
          have M5 := Lib.hid (M5.out.alloc (.cells #[.int .i64 0, .int .i64 0, .int .i64 0, .int .i64 0] 23))
          have N5 := Lib.hid (N5.out.alloc (.cells #[.int .i64 0, .int .i64 0, .int .i64 0, .int .i64 0] 23))
          have X5 := Lib.hid (Bs.made w5 0 0 0 0)
          have B5 := Lib.hid (over B5.out (below_alloc w5 (.cells #[.int .i64 0, .int .i64 0, .int .i64 0, .int .i64 0] 23)))
          have hg0 := H5.out.c0
          have hg1 := H5.out.c1
          have hg2 := H5.out.c2
          have hg3 := H5.out.c3
          have gg0 := G5.out.c0
          have gg1 := G5.out.c1
          have gg2 := G5.out.c2
          have gg3 := G5.out.c3
          have mg0 := M5.out.c0
          have mg1 := M5.out.c1
          have mg2 := M5.out.c2
          have mg3 := M5.out.c3
          have ng0 := N5.out.c0
          have ng1 := N5.out.c1
          have ng2 := N5.out.c2
          have ng3 := N5.out.c3
          have xg0 := X5.out.c0
          have xg1 := X5.out.c1
          have xg2 := X5.out.c2
          have xg3 := X5.out.c3
          go_wp2_with fail
          refine (KW.out _).mono ?_
          rintro e w6 ⟨rfl, b6⟩
          have B6 := Lib.hid (over B5.out b6)
          have H6 := Lib.hid (H5.out.below b6)
          have G6 := Lib.hid (G5.out.below b6)
          have M6 := Lib.hid (M5.out.below b6)
          have N6 := Lib.hid (N5.out.below b6)
          have X6 := Lib.hid (X5.out.below b6)
          clear b6 B5 H5 G5 M5 N5 X5 hg0 hg1 hg2 hg3 gg0 gg1 gg2 gg3 mg0 mg1 mg2 mg3 ng0 ng1 ng2 ng3 xg0 xg1 xg2 xg3
          have hg0 := H6.out.c0
          have hg1 := H6.out.c1
          have hg2 := H6.out.c2
          have hg3 := H6.out.c3
          have gg0 := G6.out.c0
          have gg1 := G6.out.c1
          have gg2 := G6.out.c2
          have gg3 := G6.out.c3
          have mg0 := M6.out.c0
          have mg1 := M6.out.c1
          have mg2 := M6.out.c2
          have mg3 := M6.out.c3
          have ng0 := N6.out.c0
          have ng1 := N6.out.c1
          have ng2 := N6.out.c2
          have ng3 := N6.out.c3
          have xg0 := X6.out.c0
          have xg1 := X6.out.c1
          have xg2 := X6.out.c2
          have xg3 := X6.out.c3
          go_wp2_with fail
          go_ret
          exact ⟨ret_bool (by rw [decide_eq_false (by omega)]; rfl), B6.out⟩
        · exact absurd hM (by omega)
set_option maxHeartbeats 4000000 in
theorem windowMeets_common (p o c s p' o' c' s' at_ : Int) (h1 : Rt p o c s) (h2 : Rt p' o' c' s') (hM : ¬ mC c c' < mO o o') (w : World) : Calls Try.prog 6 #[.agg #[.int .i64 p, .int .i64 o, .int .i64 c, .int .i64 s], .agg #[.int .i64 p', .int .i64 o', .int .i64 c', .int .i64 s'], .int .i64 at_] w fun e w' => e = .returned (.bool true) ∧ Below w.heap.size w w' := by
  have KW := Lib.hid awake_n
  have K0 := Lib.hid (fun w => stop_yes p o c s h1 w)
  have K1 := Lib.hid (fun w => stop_yes p' o' c' s' h2 w)
  have K2 := Lib.hid (fun w => meet_n p o c s p' o' c' s' w)
  have K3 := Lib.hid (fun w => refMeet_n p o c s p' o' c' s' w)
  have K4 := Lib.hid (fun w => meet_n p' o' c' s' p o c s w)
  rw [mO_comm o' o, mC_comm c' c] at K4
  rw [if_neg hM] at K2 K3 K4
  have GM := Lib.hid (two_made w p o c s p' o' c' s')
  have hO := mO_ge o o'
  have hC := mC_le c c'
  obtain ⟨hp, ho, hoc, hc, hs, hs2⟩ := h1
  obtain ⟨hp', ho', hoc', hc', hs', hs2'⟩ := h2
  generalize mO o o' = O at *
  generalize mC c c' = C at *
  by_cases h1 : at_ < o
  · have q1 : at_ < O := by omega
    clear hO hC
    go_enter Try.func6, Try.ntmps6
    go_wp2_with fail
    refine (K0.out _).mono ?_
    rintro e w1 ⟨rfl, b1⟩
    have B1 := Lib.hid (over (w := w) (by go_grown) b1)
    have hG := GM.out
    have H1 := Lib.hid (((Bs.made w p o c s).alloc (.cells #[.int .i64 p', .int .i64 o', .int .i64 c', .int .i64 s'] 23)).below b1)
    have G1 := Lib.hid ((hG).below b1)
    clear b1 hG
    have hg0 := H1.out.c0
    have hg1 := H1.out.c1
    have hg2 := H1.out.c2
    have hg3 := H1.out.c3
    have gg0 := G1.out.c0
    have gg1 := G1.out.c1
    have gg2 := G1.out.c2
    have gg3 := G1.out.c3
    go_wp2_with fail
    refine (K1.out _).mono ?_
    rintro e w2 ⟨rfl, b2⟩
    have B2 := Lib.hid (over B1.out b2)
    have H2 := Lib.hid (H1.out.below b2)
    have G2 := Lib.hid (G1.out.below b2)
    clear b2 B1 H1 G1 hg0 hg1 hg2 hg3 gg0 gg1 gg2 gg3
    have hg0 := H2.out.c0
    have hg1 := H2.out.c1
    have hg2 := H2.out.c2
    have hg3 := H2.out.c3
    have gg0 := G2.out.c0
    have gg1 := G2.out.c1
    have gg2 := G2.out.c2
    have gg3 := G2.out.c3
    go_wp2_with fail
    refine (K2.out _).mono ?_
    rintro e w3 ⟨rfl, b3⟩
    have B3 := Lib.hid (over B2.out b3)
    have H3 := Lib.hid (H2.out.below b3)
    have G3 := Lib.hid (G2.out.below b3)
    clear b3 B2 H2 G2 hg0 hg1 hg2 hg3 gg0 gg1 gg2 gg3
    have H3 := Lib.hid (H3.out.alloc (.cells #[.int .i64 p, .int .i64 O, .int .i64 C, .int .i64 s] 23))
    have G3 := Lib.hid (G3.out.alloc (.cells #[.int .i64 p, .int .i64 O, .int .i64 C, .int .i64 s] 23))
    have M3 := Lib.hid (Bs.made w3 p O C s)
    have B3 := Lib.hid (over B3.out (below_alloc w3 (.cells #[.int .i64 p, .int .i64 O, .int .i64 C, .int .i64 s] 23)))
    have hg0 := H3.out.c0
    have hg1 := H3.out.c1
    have hg2 := H3.out.c2
    have hg3 := H3.out.c3
    have gg0 := G3.out.c0
    have gg1 := G3.out.c1
    have gg2 := G3.out.c2
    have gg3 := G3.out.c3
    have mg0 := M3.out.c0
    have mg1 := M3.out.c1
    have mg2 := M3.out.c2
    have mg3 := M3.out.c3
    go_wp2_with fail
    refine (K3.out _).mono ?_
    rintro e w4 ⟨rfl, b4⟩
    have B4 := Lib.hid (over B3.out b4)
    have H4 := Lib.hid (H3.out.below b4)
    have G4 := Lib.hid (G3.out.below b4)
    have M4 := Lib.hid (M3.out.below b4)
    clear b4 B3 H3 G3 M3 hg0 hg1 hg2 hg3 gg0 gg1 gg2 gg3 mg0 mg1 mg2 mg3
    have H4 := Lib.hid (H4.out.alloc (.cells #[.int .i64 p, .int .i64 O, .int .i64 C, .int .i64 s] 23))
    have G4 := Lib.hid (G4.out.alloc (.cells #[.int .i64 p, .int .i64 O, .int .i64 C, .int .i64 s] 23))
    have M4 := Lib.hid (M4.out.alloc (.cells #[.int .i64 p, .int .i64 O, .int .i64 C, .int .i64 s] 23))
    have N4 := Lib.hid (Bs.made w4 p O C s)
    have B4 := Lib.hid (over B4.out (below_alloc w4 (.cells #[.int .i64 p, .int .i64 O, .int .i64 C, .int .i64 s] 23)))
    have hg0 := H4.out.c0
    have hg1 := H4.out.c1
    have hg2 := H4.out.c2
    have hg3 := H4.out.c3
    have gg0 := G4.out.c0
    have gg1 := G4.out.c1
    have gg2 := G4.out.c2
    have gg3 := G4.out.c3
    have mg0 := M4.out.c0
    have mg1 := M4.out.c1
    have mg2 := M4.out.c2
    have mg3 := M4.out.c3
    have ng0 := N4.out.c0
    have ng1 := N4.out.c1
    have ng2 := N4.out.c2
    have ng3 := N4.out.c3
    go_wp2_with fail
    refine (K4.out _).mono ?_
    rintro e w5 ⟨rfl, b5⟩
    have B5 := Lib.hid (over B4.out b5)
    have H5 := Lib.hid (H4.out.below b5)
    have G5 := Lib.hid (G4.out.below b5)
    have M5 := Lib.hid (M4.out.below b5)
    have N5 := Lib.hid (N4.out.below b5)
    clear b5 B4 H4 G4 M4 N4 hg0 hg1 hg2 hg3 gg0 gg1 gg2 gg3 mg0 mg1 mg2 mg3 ng0 ng1 ng2 ng3
    have H5 := Lib.hid (H5.out.alloc (.cells #[.int .i64 p', .int .i64 O, .int .i64 C, .int .i64 s'] 23))
    have G5 := Lib.hid (G5.out.alloc (.cells #[.int .i64 p', .int .i64 O, .int .i64 C, .int .i64 s'] 23))
    have M5 := Lib.hid (M5.out.alloc (.cells #[.int .i64 p', .int .i64 O, .int .i64 C, .int .i64 s'] 23))
    have N5 := Lib.hid (N5.out.alloc (.cells #[.int .i64 p', .int .i64 O, .int .i64 C, .int .i64 s'] 23))
    have X5 := Lib.hid (Bs.made w5 p' O C s')
    have B5 := Lib.hid (over B5.out (below_alloc w5 (.cells #[.int .i64 p', .int .i64 O, .int .i64 C, .int .i64 s'] 23)))
    have hg0 := H5.out.c0
    have hg1 := H5.out.c1
    have hg2 := H5.out.c2
    have hg3 := H5.out.c3
    have gg0 := G5.out.c0
    have gg1 := G5.out.c1
    have gg2 := G5.out.c2
    have gg3 := G5.out.c3
    have mg0 := M5.out.c0
    have mg1 := M5.out.c1
    have mg2 := M5.out.c2
    have mg3 := M5.out.c3
    have ng0 := N5.out.c0
    have ng1 := N5.out.c1
    have ng2 := N5.out.c2
    have ng3 := N5.out.c3
    have xg0 := X5.out.c0
    have xg1 := X5.out.c1
    have xg2 := X5.out.c2
    have xg3 := X5.out.c3
    go_wp2_with fail
    refine (KW.out _).mono ?_
    rintro e w6 ⟨rfl, b6⟩
    have B6 := Lib.hid (over B5.out b6)
    have H6 := Lib.hid (H5.out.below b6)
    have G6 := Lib.hid (G5.out.below b6)
    have M6 := Lib.hid (M5.out.below b6)
    have N6 := Lib.hid (N5.out.below b6)
    have X6 := Lib.hid (X5.out.below b6)
    clear b6 B5 H5 G5 M5 N5 X5 hg0 hg1 hg2 hg3 gg0 gg1 gg2 gg3 mg0 mg1 mg2 mg3 ng0 ng1 ng2 ng3 xg0 xg1 xg2 xg3
    have hg0 := H6.out.c0
    have hg1 := H6.out.c1
    have hg2 := H6.out.c2
    have hg3 := H6.out.c3
    have gg0 := G6.out.c0
    have gg1 := G6.out.c1
    have gg2 := G6.out.c2
    have gg3 := G6.out.c3
    have mg0 := M6.out.c0
    have mg1 := M6.out.c1
    have mg2 := M6.out.c2
    have mg3 := M6.out.c3
    have ng0 := N6.out.c0
    have ng1 := N6.out.c1
    have ng2 := N6.out.c2
    have ng3 := N6.out.c3
    have xg0 := X6.out.c0
    have xg1 := X6.out.c1
    have xg2 := X6.out.c2
    have xg3 := X6.out.c3
    go_wp2_with fail
    go_ret
    exact ⟨rfl, B6.out⟩
  · by_cases h2 : c < at_
    · have q1 : O ≤ at_ := by omega
      have q2 : C < at_ := by omega
      clear hO hC
      go_enter Try.func6, Try.ntmps6
      go_wp2_with fail
      refine (K0.out _).mono ?_
      rintro e w1 ⟨rfl, b1⟩
      have B1 := Lib.hid (over (w := w) (by go_grown) b1)
      have hG := GM.out
      have H1 := Lib.hid (((Bs.made w p o c s).alloc (.cells #[.int .i64 p', .int .i64 o', .int .i64 c', .int .i64 s'] 23)).below b1)
      have G1 := Lib.hid ((hG).below b1)
      clear b1 hG
      have hg0 := H1.out.c0
      have hg1 := H1.out.c1
      have hg2 := H1.out.c2
      have hg3 := H1.out.c3
      have gg0 := G1.out.c0
      have gg1 := G1.out.c1
      have gg2 := G1.out.c2
      have gg3 := G1.out.c3
      go_wp2_with fail
      refine (K1.out _).mono ?_
      rintro e w2 ⟨rfl, b2⟩
      have B2 := Lib.hid (over B1.out b2)
      have H2 := Lib.hid (H1.out.below b2)
      have G2 := Lib.hid (G1.out.below b2)
      clear b2 B1 H1 G1 hg0 hg1 hg2 hg3 gg0 gg1 gg2 gg3
      have hg0 := H2.out.c0
      have hg1 := H2.out.c1
      have hg2 := H2.out.c2
      have hg3 := H2.out.c3
      have gg0 := G2.out.c0
      have gg1 := G2.out.c1
      have gg2 := G2.out.c2
      have gg3 := G2.out.c3
      go_wp2_with fail
      refine (K2.out _).mono ?_
      rintro e w3 ⟨rfl, b3⟩
      have B3 := Lib.hid (over B2.out b3)
      have H3 := Lib.hid (H2.out.below b3)
      have G3 := Lib.hid (G2.out.below b3)
      clear b3 B2 H2 G2 hg0 hg1 hg2 hg3 gg0 gg1 gg2 gg3
      have H3 := Lib.hid (H3.out.alloc (.cells #[.int .i64 p, .int .i64 O, .int .i64 C, .int .i64 s] 23))
      have G3 := Lib.hid (G3.out.alloc (.cells #[.int .i64 p, .int .i64 O, .int .i64 C, .int .i64 s] 23))
      have M3 := Lib.hid (Bs.made w3 p O C s)
      have B3 := Lib.hid (over B3.out (below_alloc w3 (.cells #[.int .i64 p, .int .i64 O, .int .i64 C, .int .i64 s] 23)))
      have hg0 := H3.out.c0
      have hg1 := H3.out.c1
      have hg2 := H3.out.c2
      have hg3 := H3.out.c3
      have gg0 := G3.out.c0
      have gg1 := G3.out.c1
      have gg2 := G3.out.c2
      have gg3 := G3.out.c3
      have mg0 := M3.out.c0
      have mg1 := M3.out.c1
      have mg2 := M3.out.c2
      have mg3 := M3.out.c3
      go_wp2_with fail
      refine (K3.out _).mono ?_
      rintro e w4 ⟨rfl, b4⟩
      have B4 := Lib.hid (over B3.out b4)
      have H4 := Lib.hid (H3.out.below b4)
      have G4 := Lib.hid (G3.out.below b4)
      have M4 := Lib.hid (M3.out.below b4)
      clear b4 B3 H3 G3 M3 hg0 hg1 hg2 hg3 gg0 gg1 gg2 gg3 mg0 mg1 mg2 mg3
      have H4 := Lib.hid (H4.out.alloc (.cells #[.int .i64 p, .int .i64 O, .int .i64 C, .int .i64 s] 23))
      have G4 := Lib.hid (G4.out.alloc (.cells #[.int .i64 p, .int .i64 O, .int .i64 C, .int .i64 s] 23))
      have M4 := Lib.hid (M4.out.alloc (.cells #[.int .i64 p, .int .i64 O, .int .i64 C, .int .i64 s] 23))
      have N4 := Lib.hid (Bs.made w4 p O C s)
      have B4 := Lib.hid (over B4.out (below_alloc w4 (.cells #[.int .i64 p, .int .i64 O, .int .i64 C, .int .i64 s] 23)))
      have hg0 := H4.out.c0
      have hg1 := H4.out.c1
      have hg2 := H4.out.c2
      have hg3 := H4.out.c3
      have gg0 := G4.out.c0
      have gg1 := G4.out.c1
      have gg2 := G4.out.c2
      have gg3 := G4.out.c3
      have mg0 := M4.out.c0
      have mg1 := M4.out.c1
      have mg2 := M4.out.c2
      have mg3 := M4.out.c3
      have ng0 := N4.out.c0
      have ng1 := N4.out.c1
      have ng2 := N4.out.c2
      have ng3 := N4.out.c3
      go_wp2_with fail
      refine (K4.out _).mono ?_
      rintro e w5 ⟨rfl, b5⟩
      have B5 := Lib.hid (over B4.out b5)
      have H5 := Lib.hid (H4.out.below b5)
      have G5 := Lib.hid (G4.out.below b5)
      have M5 := Lib.hid (M4.out.below b5)
      have N5 := Lib.hid (N4.out.below b5)
      clear b5 B4 H4 G4 M4 N4 hg0 hg1 hg2 hg3 gg0 gg1 gg2 gg3 mg0 mg1 mg2 mg3 ng0 ng1 ng2 ng3
      have H5 := Lib.hid (H5.out.alloc (.cells #[.int .i64 p', .int .i64 O, .int .i64 C, .int .i64 s'] 23))
      have G5 := Lib.hid (G5.out.alloc (.cells #[.int .i64 p', .int .i64 O, .int .i64 C, .int .i64 s'] 23))
      have M5 := Lib.hid (M5.out.alloc (.cells #[.int .i64 p', .int .i64 O, .int .i64 C, .int .i64 s'] 23))
      have N5 := Lib.hid (N5.out.alloc (.cells #[.int .i64 p', .int .i64 O, .int .i64 C, .int .i64 s'] 23))
      have X5 := Lib.hid (Bs.made w5 p' O C s')
      have B5 := Lib.hid (over B5.out (below_alloc w5 (.cells #[.int .i64 p', .int .i64 O, .int .i64 C, .int .i64 s'] 23)))
      have hg0 := H5.out.c0
      have hg1 := H5.out.c1
      have hg2 := H5.out.c2
      have hg3 := H5.out.c3
      have gg0 := G5.out.c0
      have gg1 := G5.out.c1
      have gg2 := G5.out.c2
      have gg3 := G5.out.c3
      have mg0 := M5.out.c0
      have mg1 := M5.out.c1
      have mg2 := M5.out.c2
      have mg3 := M5.out.c3
      have ng0 := N5.out.c0
      have ng1 := N5.out.c1
      have ng2 := N5.out.c2
      have ng3 := N5.out.c3
      have xg0 := X5.out.c0
      have xg1 := X5.out.c1
      have xg2 := X5.out.c2
      have xg3 := X5.out.c3
      go_wp2_with fail
      refine (KW.out _).mono ?_
      rintro e w6 ⟨rfl, b6⟩
      have B6 := Lib.hid (over B5.out b6)
      have H6 := Lib.hid (H5.out.below b6)
      have G6 := Lib.hid (G5.out.below b6)
      have M6 := Lib.hid (M5.out.below b6)
      have N6 := Lib.hid (N5.out.below b6)
      have X6 := Lib.hid (X5.out.below b6)
      clear b6 B5 H5 G5 M5 N5 X5 hg0 hg1 hg2 hg3 gg0 gg1 gg2 gg3 mg0 mg1 mg2 mg3 ng0 ng1 ng2 ng3 xg0 xg1 xg2 xg3
      have hg0 := H6.out.c0
      have hg1 := H6.out.c1
      have hg2 := H6.out.c2
      have hg3 := H6.out.c3
      have gg0 := G6.out.c0
      have gg1 := G6.out.c1
      have gg2 := G6.out.c2
      have gg3 := G6.out.c3
      have mg0 := M6.out.c0
      have mg1 := M6.out.c1
      have mg2 := M6.out.c2
      have mg3 := M6.out.c3
      have ng0 := N6.out.c0
      have ng1 := N6.out.c1
      have ng2 := N6.out.c2
      have ng3 := N6.out.c3
      have xg0 := X6.out.c0
      have xg1 := X6.out.c1
      have xg2 := X6.out.c2
      have xg3 := X6.out.c3
      go_wp2_with fail
      go_ret
      exact ⟨ret_bool (by rw [decide_eq_false (by omega)]; rfl), B6.out⟩
    · by_cases h3 : at_ < o'
      · have q1 : at_ < O := by omega
        clear hO hC
        go_enter Try.func6, Try.ntmps6
        go_wp2_with fail
        refine (K0.out _).mono ?_
        rintro e w1 ⟨rfl, b1⟩
        have B1 := Lib.hid (over (w := w) (by go_grown) b1)
        have hG := GM.out
        have H1 := Lib.hid (((Bs.made w p o c s).alloc (.cells #[.int .i64 p', .int .i64 o', .int .i64 c', .int .i64 s'] 23)).below b1)
        have G1 := Lib.hid ((hG).below b1)
        clear b1 hG
        have hg0 := H1.out.c0
        have hg1 := H1.out.c1
        have hg2 := H1.out.c2
        have hg3 := H1.out.c3
        have gg0 := G1.out.c0
        have gg1 := G1.out.c1
        have gg2 := G1.out.c2
        have gg3 := G1.out.c3
        go_wp2_with fail
        refine (K1.out _).mono ?_
        rintro e w2 ⟨rfl, b2⟩
        have B2 := Lib.hid (over B1.out b2)
        have H2 := Lib.hid (H1.out.below b2)
        have G2 := Lib.hid (G1.out.below b2)
        clear b2 B1 H1 G1 hg0 hg1 hg2 hg3 gg0 gg1 gg2 gg3
        have hg0 := H2.out.c0
        have hg1 := H2.out.c1
        have hg2 := H2.out.c2
        have hg3 := H2.out.c3
        have gg0 := G2.out.c0
        have gg1 := G2.out.c1
        have gg2 := G2.out.c2
        have gg3 := G2.out.c3
        go_wp2_with fail
        refine (K2.out _).mono ?_
        rintro e w3 ⟨rfl, b3⟩
        have B3 := Lib.hid (over B2.out b3)
        have H3 := Lib.hid (H2.out.below b3)
        have G3 := Lib.hid (G2.out.below b3)
        clear b3 B2 H2 G2 hg0 hg1 hg2 hg3 gg0 gg1 gg2 gg3
        have H3 := Lib.hid (H3.out.alloc (.cells #[.int .i64 p, .int .i64 O, .int .i64 C, .int .i64 s] 23))
        have G3 := Lib.hid (G3.out.alloc (.cells #[.int .i64 p, .int .i64 O, .int .i64 C, .int .i64 s] 23))
        have M3 := Lib.hid (Bs.made w3 p O C s)
        have B3 := Lib.hid (over B3.out (below_alloc w3 (.cells #[.int .i64 p, .int .i64 O, .int .i64 C, .int .i64 s] 23)))
        have hg0 := H3.out.c0
        have hg1 := H3.out.c1
        have hg2 := H3.out.c2
        have hg3 := H3.out.c3
        have gg0 := G3.out.c0
        have gg1 := G3.out.c1
        have gg2 := G3.out.c2
        have gg3 := G3.out.c3
        have mg0 := M3.out.c0
        have mg1 := M3.out.c1
        have mg2 := M3.out.c2
        have mg3 := M3.out.c3
        go_wp2_with fail
        refine (K3.out _).mono ?_
        rintro e w4 ⟨rfl, b4⟩
        have B4 := Lib.hid (over B3.out b4)
        have H4 := Lib.hid (H3.out.below b4)
        have G4 := Lib.hid (G3.out.below b4)
        have M4 := Lib.hid (M3.out.below b4)
        clear b4 B3 H3 G3 M3 hg0 hg1 hg2 hg3 gg0 gg1 gg2 gg3 mg0 mg1 mg2 mg3
        have H4 := Lib.hid (H4.out.alloc (.cells #[.int .i64 p, .int .i64 O, .int .i64 C, .int .i64 s] 23))
        have G4 := Lib.hid (G4.out.alloc (.cells #[.int .i64 p, .int .i64 O, .int .i64 C, .int .i64 s] 23))
        have M4 := Lib.hid (M4.out.alloc (.cells #[.int .i64 p, .int .i64 O, .int .i64 C, .int .i64 s] 23))
        have N4 := Lib.hid (Bs.made w4 p O C s)
        have B4 := Lib.hid (over B4.out (below_alloc w4 (.cells #[.int .i64 p, .int .i64 O, .int .i64 C, .int .i64 s] 23)))
        have hg0 := H4.out.c0
        have hg1 := H4.out.c1
        have hg2 := H4.out.c2
        have hg3 := H4.out.c3
        have gg0 := G4.out.c0
        have gg1 := G4.out.c1
        have gg2 := G4.out.c2
        have gg3 := G4.out.c3
        have mg0 := M4.out.c0
        have mg1 := M4.out.c1
        have mg2 := M4.out.c2
        have mg3 := M4.out.c3
        have ng0 := N4.out.c0
        have ng1 := N4.out.c1
        have ng2 := N4.out.c2
        have ng3 := N4.out.c3
        go_wp2_with fail
        refine (K4.out _).mono ?_
        rintro e w5 ⟨rfl, b5⟩
        have B5 := Lib.hid (over B4.out b5)
        have H5 := Lib.hid (H4.out.below b5)
        have G5 := Lib.hid (G4.out.below b5)
        have M5 := Lib.hid (M4.out.below b5)
        have N5 := Lib.hid (N4.out.below b5)
        clear b5 B4 H4 G4 M4 N4 hg0 hg1 hg2 hg3 gg0 gg1 gg2 gg3 mg0 mg1 mg2 mg3 ng0 ng1 ng2 ng3
        have H5 := Lib.hid (H5.out.alloc (.cells #[.int .i64 p', .int .i64 O, .int .i64 C, .int .i64 s'] 23))
        have G5 := Lib.hid (G5.out.alloc (.cells #[.int .i64 p', .int .i64 O, .int .i64 C, .int .i64 s'] 23))
        have M5 := Lib.hid (M5.out.alloc (.cells #[.int .i64 p', .int .i64 O, .int .i64 C, .int .i64 s'] 23))
        have N5 := Lib.hid (N5.out.alloc (.cells #[.int .i64 p', .int .i64 O, .int .i64 C, .int .i64 s'] 23))
        have X5 := Lib.hid (Bs.made w5 p' O C s')
        have B5 := Lib.hid (over B5.out (below_alloc w5 (.cells #[.int .i64 p', .int .i64 O, .int .i64 C, .int .i64 s'] 23)))
        have hg0 := H5.out.c0
        have hg1 := H5.out.c1
        have hg2 := H5.out.c2
        have hg3 := H5.out.c3
        have gg0 := G5.out.c0
        have gg1 := G5.out.c1
        have gg2 := G5.out.c2
        have gg3 := G5.out.c3
        have mg0 := M5.out.c0
        have mg1 := M5.out.c1
        have mg2 := M5.out.c2
        have mg3 := M5.out.c3
        have ng0 := N5.out.c0
        have ng1 := N5.out.c1
        have ng2 := N5.out.c2
        have ng3 := N5.out.c3
        have xg0 := X5.out.c0
        have xg1 := X5.out.c1
        have xg2 := X5.out.c2
        have xg3 := X5.out.c3
        go_wp2_with fail
        refine (KW.out _).mono ?_
        rintro e w6 ⟨rfl, b6⟩
        have B6 := Lib.hid (over B5.out b6)
        have H6 := Lib.hid (H5.out.below b6)
        have G6 := Lib.hid (G5.out.below b6)
        have M6 := Lib.hid (M5.out.below b6)
        have N6 := Lib.hid (N5.out.below b6)
        have X6 := Lib.hid (X5.out.below b6)
        clear b6 B5 H5 G5 M5 N5 X5 hg0 hg1 hg2 hg3 gg0 gg1 gg2 gg3 mg0 mg1 mg2 mg3 ng0 ng1 ng2 ng3 xg0 xg1 xg2 xg3
        have hg0 := H6.out.c0
        have hg1 := H6.out.c1
        have hg2 := H6.out.c2
        have hg3 := H6.out.c3
        have gg0 := G6.out.c0
        have gg1 := G6.out.c1
        have gg2 := G6.out.c2
        have gg3 := G6.out.c3
        have mg0 := M6.out.c0
        have mg1 := M6.out.c1
        have mg2 := M6.out.c2
        have mg3 := M6.out.c3
        have ng0 := N6.out.c0
        have ng1 := N6.out.c1
        have ng2 := N6.out.c2
        have ng3 := N6.out.c3
        have xg0 := X6.out.c0
        have xg1 := X6.out.c1
        have xg2 := X6.out.c2
        have xg3 := X6.out.c3
        go_wp2_with fail
        go_ret
        exact ⟨rfl, B6.out⟩
      · by_cases h4 : c' < at_
        · have q1 : O ≤ at_ := by omega
          have q2 : C < at_ := by omega
          clear hO hC
          go_enter Try.func6, Try.ntmps6
          go_wp2_with fail
          refine (K0.out _).mono ?_
          rintro e w1 ⟨rfl, b1⟩
          have B1 := Lib.hid (over (w := w) (by go_grown) b1)
          have hG := GM.out
          have H1 := Lib.hid (((Bs.made w p o c s).alloc (.cells #[.int .i64 p', .int .i64 o', .int .i64 c', .int .i64 s'] 23)).below b1)
          have G1 := Lib.hid ((hG).below b1)
          clear b1 hG
          have hg0 := H1.out.c0
          have hg1 := H1.out.c1
          have hg2 := H1.out.c2
          have hg3 := H1.out.c3
          have gg0 := G1.out.c0
          have gg1 := G1.out.c1
          have gg2 := G1.out.c2
          have gg3 := G1.out.c3
          go_wp2_with fail
          refine (K1.out _).mono ?_
          rintro e w2 ⟨rfl, b2⟩
          have B2 := Lib.hid (over B1.out b2)
          have H2 := Lib.hid (H1.out.below b2)
          have G2 := Lib.hid (G1.out.below b2)
          clear b2 B1 H1 G1 hg0 hg1 hg2 hg3 gg0 gg1 gg2 gg3
          have hg0 := H2.out.c0
          have hg1 := H2.out.c1
          have hg2 := H2.out.c2
          have hg3 := H2.out.c3
          have gg0 := G2.out.c0
          have gg1 := G2.out.c1
          have gg2 := G2.out.c2
          have gg3 := G2.out.c3
          go_wp2_with fail
          refine (K2.out _).mono ?_
          rintro e w3 ⟨rfl, b3⟩
          have B3 := Lib.hid (over B2.out b3)
          have H3 := Lib.hid (H2.out.below b3)
          have G3 := Lib.hid (G2.out.below b3)
          clear b3 B2 H2 G2 hg0 hg1 hg2 hg3 gg0 gg1 gg2 gg3
          have H3 := Lib.hid (H3.out.alloc (.cells #[.int .i64 p, .int .i64 O, .int .i64 C, .int .i64 s] 23))
          have G3 := Lib.hid (G3.out.alloc (.cells #[.int .i64 p, .int .i64 O, .int .i64 C, .int .i64 s] 23))
          have M3 := Lib.hid (Bs.made w3 p O C s)
          have B3 := Lib.hid (over B3.out (below_alloc w3 (.cells #[.int .i64 p, .int .i64 O, .int .i64 C, .int .i64 s] 23)))
          have hg0 := H3.out.c0
          have hg1 := H3.out.c1
          have hg2 := H3.out.c2
          have hg3 := H3.out.c3
          have gg0 := G3.out.c0
          have gg1 := G3.out.c1
          have gg2 := G3.out.c2
          have gg3 := G3.out.c3
          have mg0 := M3.out.c0
          have mg1 := M3.out.c1
          have mg2 := M3.out.c2
          have mg3 := M3.out.c3
          go_wp2_with fail
          refine (K3.out _).mono ?_
          rintro e w4 ⟨rfl, b4⟩
          have B4 := Lib.hid (over B3.out b4)
          have H4 := Lib.hid (H3.out.below b4)
          have G4 := Lib.hid (G3.out.below b4)
          have M4 := Lib.hid (M3.out.below b4)
          clear b4 B3 H3 G3 M3 hg0 hg1 hg2 hg3 gg0 gg1 gg2 gg3 mg0 mg1 mg2 mg3
          have H4 := Lib.hid (H4.out.alloc (.cells #[.int .i64 p, .int .i64 O, .int .i64 C, .int .i64 s] 23))
          have G4 := Lib.hid (G4.out.alloc (.cells #[.int .i64 p, .int .i64 O, .int .i64 C, .int .i64 s] 23))
          have M4 := Lib.hid (M4.out.alloc (.cells #[.int .i64 p, .int .i64 O, .int .i64 C, .int .i64 s] 23))
          have N4 := Lib.hid (Bs.made w4 p O C s)
          have B4 := Lib.hid (over B4.out (below_alloc w4 (.cells #[.int .i64 p, .int .i64 O, .int .i64 C, .int .i64 s] 23)))
          have hg0 := H4.out.c0
          have hg1 := H4.out.c1
          have hg2 := H4.out.c2
          have hg3 := H4.out.c3
          have gg0 := G4.out.c0
          have gg1 := G4.out.c1
          have gg2 := G4.out.c2
          have gg3 := G4.out.c3
          have mg0 := M4.out.c0
          have mg1 := M4.out.c1
          have mg2 := M4.out.c2
          have mg3 := M4.out.c3
          have ng0 := N4.out.c0
          have ng1 := N4.out.c1
          have ng2 := N4.out.c2
          have ng3 := N4.out.c3
          go_wp2_with fail
          refine (K4.out _).mono ?_
          rintro e w5 ⟨rfl, b5⟩
          have B5 := Lib.hid (over B4.out b5)
          have H5 := Lib.hid (H4.out.below b5)
          have G5 := Lib.hid (G4.out.below b5)
          have M5 := Lib.hid (M4.out.below b5)
          have N5 := Lib.hid (N4.out.below b5)
          clear b5 B4 H4 G4 M4 N4 hg0 hg1 hg2 hg3 gg0 gg1 gg2 gg3 mg0 mg1 mg2 mg3 ng0 ng1 ng2 ng3
          have H5 := Lib.hid (H5.out.alloc (.cells #[.int .i64 p', .int .i64 O, .int .i64 C, .int .i64 s'] 23))
          have G5 := Lib.hid (G5.out.alloc (.cells #[.int .i64 p', .int .i64 O, .int .i64 C, .int .i64 s'] 23))
          have M5 := Lib.hid (M5.out.alloc (.cells #[.int .i64 p', .int .i64 O, .int .i64 C, .int .i64 s'] 23))
          have N5 := Lib.hid (N5.out.alloc (.cells #[.int .i64 p', .int .i64 O, .int .i64 C, .int .i64 s'] 23))
          have X5 := Lib.hid (Bs.made w5 p' O C s')
          have B5 := Lib.hid (over B5.out (below_alloc w5 (.cells #[.int .i64 p', .int .i64 O, .int .i64 C, .int .i64 s'] 23)))
          have hg0 := H5.out.c0
          have hg1 := H5.out.c1
          have hg2 := H5.out.c2
          have hg3 := H5.out.c3
          have gg0 := G5.out.c0
          have gg1 := G5.out.c1
          have gg2 := G5.out.c2
          have gg3 := G5.out.c3
          have mg0 := M5.out.c0
          have mg1 := M5.out.c1
          have mg2 := M5.out.c2
          have mg3 := M5.out.c3
          have ng0 := N5.out.c0
          have ng1 := N5.out.c1
          have ng2 := N5.out.c2
          have ng3 := N5.out.c3
          have xg0 := X5.out.c0
          have xg1 := X5.out.c1
          have xg2 := X5.out.c2
          have xg3 := X5.out.c3
          go_wp2_with fail
          refine (KW.out _).mono ?_
          rintro e w6 ⟨rfl, b6⟩
          have B6 := Lib.hid (over B5.out b6)
          have H6 := Lib.hid (H5.out.below b6)
          have G6 := Lib.hid (G5.out.below b6)
          have M6 := Lib.hid (M5.out.below b6)
          have N6 := Lib.hid (N5.out.below b6)
          have X6 := Lib.hid (X5.out.below b6)
          clear b6 B5 H5 G5 M5 N5 X5 hg0 hg1 hg2 hg3 gg0 gg1 gg2 gg3 mg0 mg1 mg2 mg3 ng0 ng1 ng2 ng3 xg0 xg1 xg2 xg3
          have hg0 := H6.out.c0
          have hg1 := H6.out.c1
          have hg2 := H6.out.c2
          have hg3 := H6.out.c3
          have gg0 := G6.out.c0
          have gg1 := G6.out.c1
          have gg2 := G6.out.c2
          have gg3 := G6.out.c3
          have mg0 := M6.out.c0
          have mg1 := M6.out.c1
          have mg2 := M6.out.c2
          have mg3 := M6.out.c3
          have ng0 := N6.out.c0
          have ng1 := N6.out.c1
          have ng2 := N6.out.c2
          have ng3 := N6.out.c3
          have xg0 := X6.out.c0
          have xg1 := X6.out.c1
          have xg2 := X6.out.c2
          have xg3 := X6.out.c3
          go_wp2_with fail
          go_ret
          exact ⟨rfl, B6.out⟩
        · have q1 : O ≤ at_ := by omega
          have q2 : at_ ≤ C := by omega
          clear hO hC
          go_enter Try.func6, Try.ntmps6
          go_wp2_with fail
          refine (K0.out _).mono ?_
          rintro e w1 ⟨rfl, b1⟩
          have B1 := Lib.hid (over (w := w) (by go_grown) b1)
          have hG := GM.out
          have H1 := Lib.hid (((Bs.made w p o c s).alloc (.cells #[.int .i64 p', .int .i64 o', .int .i64 c', .int .i64 s'] 23)).below b1)
          have G1 := Lib.hid ((hG).below b1)
          clear b1 hG
          have hg0 := H1.out.c0
          have hg1 := H1.out.c1
          have hg2 := H1.out.c2
          have hg3 := H1.out.c3
          have gg0 := G1.out.c0
          have gg1 := G1.out.c1
          have gg2 := G1.out.c2
          have gg3 := G1.out.c3
          go_wp2_with fail
          refine (K1.out _).mono ?_
          rintro e w2 ⟨rfl, b2⟩
          have B2 := Lib.hid (over B1.out b2)
          have H2 := Lib.hid (H1.out.below b2)
          have G2 := Lib.hid (G1.out.below b2)
          clear b2 B1 H1 G1 hg0 hg1 hg2 hg3 gg0 gg1 gg2 gg3
          have hg0 := H2.out.c0
          have hg1 := H2.out.c1
          have hg2 := H2.out.c2
          have hg3 := H2.out.c3
          have gg0 := G2.out.c0
          have gg1 := G2.out.c1
          have gg2 := G2.out.c2
          have gg3 := G2.out.c3
          go_wp2_with fail
          refine (K2.out _).mono ?_
          rintro e w3 ⟨rfl, b3⟩
          have B3 := Lib.hid (over B2.out b3)
          have H3 := Lib.hid (H2.out.below b3)
          have G3 := Lib.hid (G2.out.below b3)
          clear b3 B2 H2 G2 hg0 hg1 hg2 hg3 gg0 gg1 gg2 gg3
          have H3 := Lib.hid (H3.out.alloc (.cells #[.int .i64 p, .int .i64 O, .int .i64 C, .int .i64 s] 23))
          have G3 := Lib.hid (G3.out.alloc (.cells #[.int .i64 p, .int .i64 O, .int .i64 C, .int .i64 s] 23))
          have M3 := Lib.hid (Bs.made w3 p O C s)
          have B3 := Lib.hid (over B3.out (below_alloc w3 (.cells #[.int .i64 p, .int .i64 O, .int .i64 C, .int .i64 s] 23)))
          have hg0 := H3.out.c0
          have hg1 := H3.out.c1
          have hg2 := H3.out.c2
          have hg3 := H3.out.c3
          have gg0 := G3.out.c0
          have gg1 := G3.out.c1
          have gg2 := G3.out.c2
          have gg3 := G3.out.c3
          have mg0 := M3.out.c0
          have mg1 := M3.out.c1
          have mg2 := M3.out.c2
          have mg3 := M3.out.c3
          go_wp2_with fail
          refine (K3.out _).mono ?_
          rintro e w4 ⟨rfl, b4⟩
          have B4 := Lib.hid (over B3.out b4)
          have H4 := Lib.hid (H3.out.below b4)
          have G4 := Lib.hid (G3.out.below b4)
          have M4 := Lib.hid (M3.out.below b4)
          clear b4 B3 H3 G3 M3 hg0 hg1 hg2 hg3 gg0 gg1 gg2 gg3 mg0 mg1 mg2 mg3
          have H4 := Lib.hid (H4.out.alloc (.cells #[.int .i64 p, .int .i64 O, .int .i64 C, .int .i64 s] 23))
          have G4 := Lib.hid (G4.out.alloc (.cells #[.int .i64 p, .int .i64 O, .int .i64 C, .int .i64 s] 23))
          have M4 := Lib.hid (M4.out.alloc (.cells #[.int .i64 p, .int .i64 O, .int .i64 C, .int .i64 s] 23))
          have N4 := Lib.hid (Bs.made w4 p O C s)
          have B4 := Lib.hid (over B4.out (below_alloc w4 (.cells #[.int .i64 p, .int .i64 O, .int .i64 C, .int .i64 s] 23)))
          have hg0 := H4.out.c0
          have hg1 := H4.out.c1
          have hg2 := H4.out.c2
          have hg3 := H4.out.c3
          have gg0 := G4.out.c0
          have gg1 := G4.out.c1
          have gg2 := G4.out.c2
          have gg3 := G4.out.c3
          have mg0 := M4.out.c0
          have mg1 := M4.out.c1
          have mg2 := M4.out.c2
          have mg3 := M4.out.c3
          have ng0 := N4.out.c0
          have ng1 := N4.out.c1
          have ng2 := N4.out.c2
          have ng3 := N4.out.c3
          go_wp2_with fail
          refine (K4.out _).mono ?_
          rintro e w5 ⟨rfl, b5⟩
          have B5 := Lib.hid (over B4.out b5)
          have H5 := Lib.hid (H4.out.below b5)
          have G5 := Lib.hid (G4.out.below b5)
          have M5 := Lib.hid (M4.out.below b5)
          have N5 := Lib.hid (N4.out.below b5)
          clear b5 B4 H4 G4 M4 N4 hg0 hg1 hg2 hg3 gg0 gg1 gg2 gg3 mg0 mg1 mg2 mg3 ng0 ng1 ng2 ng3
          have H5 := Lib.hid (H5.out.alloc (.cells #[.int .i64 p', .int .i64 O, .int .i64 C, .int .i64 s'] 23))
          have G5 := Lib.hid (G5.out.alloc (.cells #[.int .i64 p', .int .i64 O, .int .i64 C, .int .i64 s'] 23))
          have M5 := Lib.hid (M5.out.alloc (.cells #[.int .i64 p', .int .i64 O, .int .i64 C, .int .i64 s'] 23))
          have N5 := Lib.hid (N5.out.alloc (.cells #[.int .i64 p', .int .i64 O, .int .i64 C, .int .i64 s'] 23))
          have X5 := Lib.hid (Bs.made w5 p' O C s')
          have B5 := Lib.hid (over B5.out (below_alloc w5 (.cells #[.int .i64 p', .int .i64 O, .int .i64 C, .int .i64 s'] 23)))
          have hg0 := H5.out.c0
          have hg1 := H5.out.c1
          have hg2 := H5.out.c2
          have hg3 := H5.out.c3
          have gg0 := G5.out.c0
          have gg1 := G5.out.c1
          have gg2 := G5.out.c2
          have gg3 := G5.out.c3
          have mg0 := M5.out.c0
          have mg1 := M5.out.c1
          have mg2 := M5.out.c2
          have mg3 := M5.out.c3
          have ng0 := N5.out.c0
          have ng1 := N5.out.c1
          have ng2 := N5.out.c2
          have ng3 := N5.out.c3
          have xg0 := X5.out.c0
          have xg1 := X5.out.c1
          have xg2 := X5.out.c2
          have xg3 := X5.out.c3
          go_wp2_with fail
          refine (KW.out _).mono ?_
          rintro e w6 ⟨rfl, b6⟩
          have B6 := Lib.hid (over B5.out b6)
          have H6 := Lib.hid (H5.out.below b6)
          have G6 := Lib.hid (G5.out.below b6)
          have M6 := Lib.hid (M5.out.below b6)
          have N6 := Lib.hid (N5.out.below b6)
          have X6 := Lib.hid (X5.out.below b6)
          clear b6 B5 H5 G5 M5 N5 X5 hg0 hg1 hg2 hg3 gg0 gg1 gg2 gg3 mg0 mg1 mg2 mg3 ng0 ng1 ng2 ng3 xg0 xg1 xg2 xg3
          have hg0 := H6.out.c0
          have hg1 := H6.out.c1
          have hg2 := H6.out.c2
          have hg3 := H6.out.c3
          have gg0 := G6.out.c0
          have gg1 := G6.out.c1
          have gg2 := G6.out.c2
          have gg3 := G6.out.c3
          have mg0 := M6.out.c0
          have mg1 := M6.out.c1
          have mg2 := M6.out.c2
          have mg3 := M6.out.c3
          have ng0 := N6.out.c0
          have ng1 := N6.out.c1
          have ng2 := N6.out.c2
          have ng3 := N6.out.c3
          have xg0 := X6.out.c0
          have xg1 := X6.out.c1
          have xg2 := X6.out.c2
          have xg3 := X6.out.c3
          go_wp2_with fail
          go_ret
          exact ⟨rfl, B6.out⟩
theorem windowMeets_walk (p o c s p' o' c' s' at_ : Int) (w : World) : Calls Try.prog 6 #[.agg #[.int .i64 p, .int .i64 o, .int .i64 c, .int .i64 s], .agg #[.int .i64 p', .int .i64 o', .int .i64 c', .int .i64 s'], .int .i64 at_] w fun e w' => e = .returned (.bool true) ∧ Below w.heap.size w w' := by
  by_cases h1 : Rt p o c s
  · by_cases h2 : Rt p' o' c' s'
    · by_cases hM : mC c c' < mO o o'
      · exact windowMeets_apart p o c s p' o' c' s' at_ h1 h2 hM w
      · exact windowMeets_common p o c s p' o' c' s' at_ h1 h2 hM w
    · exact windowMeets_no2 p o c s p' o' c' s' at_ h1 h2 w
  · exact windowMeets_no1 p o c s p' o' c' s' at_ h1 w

end Go.Proofs.Ytmkdbmeaiehnbaa.V
