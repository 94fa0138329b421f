/-
  DERIVED. The walks of the laws' stop and awake.
-/
import Derived.Test.YtmkdbmeaiehnbaaRefWin1
import Derived.Test.YtmkdbmeaiehnbaaRefWin2
namespace Go.Proofs.Ytmkdbmeaiehnbaa.V
open Go.RowKit
set_option maxRecDepth 8000

/-- right, at a place -/
def Rt (p o c s : Int) : Prop := 0 ≤ p ∧ 0 ≤ o ∧ o ≤ c ∧ c ≤ 4096 ∧ 0 ≤ s ∧ s ≤ 4096
theorem stop_n (p o c s : Int) (w : World) : Calls Try.prog 11 #[.agg #[.int .i64 p, .int .i64 o, .int .i64 c, .int .i64 s]] w fun e w' => e = .returned (.bool (atB p o c s)) ∧ Below w.heap.size w w' := by
  have K := Lib.hid (fun w => refCheck_n p o c s w)
  rcases chk_cases p o c s with ⟨hc, ⟨h0, h1, h2, h3⟩ | h⟩ | hc
  · have HR : Hid (false = atB p o c s) := (at_no (by omega)).symm
    rw [hc] at K
    have hp : p < 0 := by omega
    clear hc h0 h1 h2 h3
    generalize atB p o c s = r at *
    go_enter Try.func11, Try.ntmps11
    go_wp2_with fail
    refine (K.out _).mono ?_
    rintro e w1 ⟨rfl, b1⟩
    have B1 := Lib.hid (over (w := w) (by go_grown) b1)
    have g0 := ((Bs.made w p o c s).below b1).c0
    clear b1
    go_wp2_with fail
    go_ret
    exact ⟨ret_bool ((decide_eq_false (by omega)).trans HR.out), B1.out⟩
  · have HR : Hid (true = atB p o c s) := ((at_iff p o c s).2 h).symm
    rw [hc] at K
    have hp : 0 ≤ p := h.1
    clear hc h
    generalize atB p o c s = r at *
    go_enter Try.func11, Try.ntmps11
    go_wp2_with fail
    refine (K.out _).mono ?_
    rintro e w1 ⟨rfl, b1⟩
    have B1 := Lib.hid (over (w := w) (by go_grown) b1)
    have g0 := ((Bs.made w p o c s).below b1).c0
    clear b1
    go_wp2_with fail
    go_ret
    exact ⟨ret_bool HR.out, B1.out⟩
  · have HR : Hid (false = atB p o c s) := (at_no (fun h => by rw [chk_at h] at hc; omega)).symm
    rw [hc] at K
    clear hc
    generalize atB p o c s = r at *
    go_enter Try.func11, Try.ntmps11
    go_wp2_with fail
    refine (K.out _).mono ?_
    rintro e w1 ⟨rfl, b1⟩
    have B1 := Lib.hid (over (w := w) (by go_grown) b1)
    clear b1
    go_wp2_with fail
    go_ret
    exact ⟨ret_bool HR.out, B1.out⟩
theorem stop_yes (p o c s : Int) (h : Rt p o c s) (w : World) : Calls Try.prog 11 #[.agg #[.int .i64 p, .int .i64 o, .int .i64 c, .int .i64 s]] w fun e w' => e = .returned (.bool true) ∧ Below w.heap.size w w' := by
  have := stop_n p o c s w
  rw [(at_iff p o c s).2 h] at this
  exact this
theorem stop_no (p o c s : Int) (h : ¬ Rt p o c s) (w : World) : Calls Try.prog 11 #[.agg #[.int .i64 p, .int .i64 o, .int .i64 c, .int .i64 s]] w fun e w' => e = .returned (.bool false) ∧ Below w.heap.size w w' := by
  have := stop_n p o c s w
  rw [at_no h] at this
  exact this

theorem exB (w : World) : Bs (w.alloc (.cells #[.int .i64 0, .int .i64 10, .int .i64 20, .int .i64 5] 23)) w.heap.size 0 10 20 5 := Bs.made w 0 10 20 5
set_option maxHeartbeats 800000 in
theorem awake_n (w : World) : Calls Try.prog 10 #[] w fun e w' => e = .returned (.bool true) ∧ Below w.heap.size w w' := by
  have K1 := Lib.hid (fun w => begin_n 0 10 20 5 3 (by decide) w)
  rw [show bgV 10 20 3 = 10 from rfl, show bgE 20 3 = 0 from rfl] at K1
  have K2 := Lib.hid (fun w => latest_n 0 10 20 5 20 (by decide) (by decide) (by decide) (by decide) (by decide) (by decide) w)
  rw [show ltV 10 20 5 20 = 15 from rfl, show ltB 10 5 20 = true from rfl] at K2
  have K3 := Lib.hid (fun w => begin_n 0 10 20 5 21 (by decide) w)
  rw [show bgV 10 20 21 = 0 from rfl, show bgE 20 21 = 14 from rfl] at K3
  have K4 := Lib.hid (fun w => check_n 0 10 20 5 w)
  rw [show chk 0 10 20 5 = 0 from rfl] at K4
  have H0 := Lib.hid (exB w)
  go_enter Try.func10, Try.ntmps10
  go_wp2_with fail
  refine (K1.out _).mono ?_
  rintro e w1 ⟨rfl, b1⟩
  have B1 := Lib.hid (over (w := w) (by go_grown) b1)
  have H1 := Lib.hid (H0.out.below b1)
  have g0 := H1.out.c0
  have g1 := H1.out.c1
  have g2 := H1.out.c2
  have g3 := H1.out.c3
  clear b1 H0
  go_wp2_with fail
  refine (K2.out _).mono ?_
  rintro e w2 ⟨rfl, b2⟩
  have B2 := Lib.hid (over B1.out b2)
  have H2 := Lib.hid (H1.out.below b2)
  clear b2 B1 H1 g0 g1 g2 g3
  have g0 := H2.out.c0
  have g1 := H2.out.c1
  have g2 := H2.out.c2
  have g3 := H2.out.c3
  go_wp2_with fail
  refine (K3.out _).mono ?_
  rintro e w3 ⟨rfl, b3⟩
  have B3 := Lib.hid (over B2.out b3)
  have H3 := Lib.hid (H2.out.below b3)
  clear b3 B2 H2 g0 g1 g2 g3
  have g0 := H3.out.c0
  have g1 := H3.out.c1
  have g2 := H3.out.c2
  have g3 := H3.out.c3
  go_wp2_with fail
  refine (K4.out _).mono ?_
  rintro e w4 ⟨rfl, b4⟩
  have B4 := Lib.hid (over B3.out b4)
  clear b4 B3 H3 g0 g1 g2 g3
  go_wp2_with fail
  go_ret
  exact ⟨rfl, B4.out⟩

end Go.Proofs.Ytmkdbmeaiehnbaa.V
