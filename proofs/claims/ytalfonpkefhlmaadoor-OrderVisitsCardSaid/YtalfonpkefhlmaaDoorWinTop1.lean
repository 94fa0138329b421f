/-
  DERIVED. The walks of window: isTick, isNone, isAtPlace, Check, and of the specification's Check.
-/
import Derived.Test.YtalfonpkefhlmaaDoorWinRow
namespace Go.Proofs.YtalfonpkefhlmaaDoor.V
open Go.RowKit
set_option maxRecDepth 8000

theorem isTick_n (t : Int) (w : World) : Calls Tryd.prog 59 #[.int .i64 t] w fun e w' => e = .returned (.bool (tickB t)) ∧ w = w' := by
  by_cases h1 : 0 ≤ t
  · have HR : Hid (decide (t ≤ 4096) = tickB t) := by show _ = _; unfold tickB; rw [decide_eq_true h1, Bool.true_and]
    generalize tickB t = r at *
    go_enter Tryd.func59, Tryd.ntmps59
    go_wp2_with fail
    go_ret
    exact ⟨ret_bool HR.out, rfl⟩
  · have HR : Hid (false = tickB t) := by show _ = _; unfold tickB; rw [decide_eq_false h1, Bool.false_and]
    have h2 : t < 0 := by omega
    generalize tickB t = r at *
    go_enter Tryd.func59, Tryd.ntmps59
    go_wp2_with fail
    go_ret
    exact ⟨ret_bool HR.out, rfl⟩
theorem isNone_n (p o c s : Int) (w : World) : Calls Tryd.prog 51 #[.agg #[.int .i64 p, .int .i64 o, .int .i64 c, .int .i64 s]] w fun e w' => e = .returned (.bool (noneB p o c s)) ∧ Below w.heap.size w w' := by
  by_cases h0 : p = -1
  · subst h0
    by_cases h1 : o = 0
    · subst h1
      by_cases h2 : c = 0
      · subst h2
        by_cases h3 : s = 0
        · subst h3
          have HR : Hid (true = noneB (-1) 0 0 0) := rfl
          generalize noneB (-1) 0 0 0 = r at *
          go_enter Tryd.func51, Tryd.ntmps51
          go_wp2_with fail
          go_ret
          exact ⟨ret_bool HR.out, by go_grown⟩
        · have HR : Hid (false = noneB (-1) 0 0 s) := by show _ = _; unfold noneB; rw [decide_eq_false (fun h => h3 h.2.2.2)]
          have e3 := ne_eqI h3
          generalize noneB (-1) 0 0 s = r at *
          go_enter Tryd.func51, Tryd.ntmps51
          go_wp2_with fail
          go_ret
          exact ⟨ret_bool HR.out, by go_grown⟩
      · have HR : Hid (false = noneB (-1) 0 c s) := by show _ = _; unfold noneB; rw [decide_eq_false (fun h => h2 h.2.2.1)]
        have e3 := ne_eqI h2
        generalize noneB (-1) 0 c s = r at *
        go_enter Tryd.func51, Tryd.ntmps51
        go_wp2_with fail
        go_ret
        exact ⟨ret_bool HR.out, by go_grown⟩
    · have HR : Hid (false = noneB (-1) o c s) := by show _ = _; unfold noneB; rw [decide_eq_false (fun h => h1 h.2.1)]
      have e3 := ne_eqI h1
      generalize noneB (-1) o c s = r at *
      go_enter Tryd.func51, Tryd.ntmps51
      go_wp2_with fail
      go_ret
      exact ⟨ret_bool HR.out, by go_grown⟩
  · have HR : Hid (false = noneB p o c s) := by show _ = _; unfold noneB; rw [decide_eq_false (fun h => h0 h.1)]
    have e3 := ne_eqI h0
    generalize noneB p o c s = r at *
    go_enter Tryd.func51, Tryd.ntmps51
    go_wp2_with fail
    go_ret
    exact ⟨ret_bool HR.out, by go_grown⟩
theorem at_no {p o c s : Int} (h : ¬ (0 ≤ p ∧ 0 ≤ o ∧ o ≤ c ∧ c ≤ 4096 ∧ 0 ≤ s ∧ s ≤ 4096)) : atB p o c s = false := decide_eq_false h
theorem isAtPlace_n (p o c s : Int) (w : World) : Calls Tryd.prog 52 #[.agg #[.int .i64 p, .int .i64 o, .int .i64 c, .int .i64 s]] w fun e w' => e = .returned (.bool (atB p o c s)) ∧ Below w.heap.size w w' := by
  have K1 := Lib.hid (fun w => isTick_n o w)
  have K2 := Lib.hid (fun w => isTick_n c w)
  have K3 := Lib.hid (fun w => isTick_n s w)
  by_cases h0 : 0 ≤ p
  · cases h1 : tickB o
    · have HR : Hid (false = atB p o c s) := (at_no (by have := tick_no h1; omega)).symm
      rw [h1] at K1
      generalize atB p o c s = r at *
      clear h1
      go_enter Tryd.func52, Tryd.ntmps52
      go_wp2_with fail
      refine (K1.out _).mono ?_
      rintro e w1 ⟨rfl, rfl⟩
      go_wp2_with fail
      go_ret
      exact ⟨ret_bool HR.out, by go_grown⟩
    · rw [h1] at K1
      by_cases h2 : o ≤ c
      · cases h3 : tickB c
        · have HR : Hid (false = atB p o c s) := (at_no (by have := tick_no h3; omega)).symm
          rw [h3] at K2
          generalize atB p o c s = r at *
          clear h1 h3
          go_enter Tryd.func52, Tryd.ntmps52
          go_wp2_with fail
          refine (K1.out _).mono ?_
          rintro e w1 ⟨rfl, rfl⟩
          go_wp2_with fail
          refine (K2.out _).mono ?_
          rintro e w1 ⟨rfl, rfl⟩
          go_wp2_with fail
          go_ret
          exact ⟨ret_bool HR.out, by go_grown⟩
        · rw [h3] at K2
          have HR : Hid (tickB s = atB p o c s) := by
            show _ = _
            rw [tick_iff] at h1 h3
            cases h4 : tickB s
            · exact (at_no (by have := tick_no h4; omega)).symm
            · rw [tick_iff] at h4
              exact ((at_iff p o c s).2 (by omega)).symm
          generalize atB p o c s = r at *
          generalize tickB s = q at *
          clear h1 h3
          go_enter Tryd.func52, Tryd.ntmps52
          go_wp2_with fail
          refine (K1.out _).mono ?_
          rintro e w1 ⟨rfl, rfl⟩
          go_wp2_with fail
          refine (K2.out _).mono ?_
          rintro e w1 ⟨rfl, rfl⟩
          go_wp2_with fail
          refine (K3.out _).mono ?_
          rintro e w1 ⟨rfl, rfl⟩
          go_wp2_with fail
          go_ret
          exact ⟨ret_bool HR.out, by go_grown⟩
      · have HR : Hid (false = atB p o c s) := (at_no (by omega)).symm
        generalize atB p o c s = r at *
        clear h1
        go_enter Tryd.func52, Tryd.ntmps52
        go_wp2_with fail
        refine (K1.out _).mono ?_
        rintro e w1 ⟨rfl, rfl⟩
        go_wp2_with fail
        go_ret
        exact ⟨ret_bool HR.out, by go_grown⟩
  · have HR : Hid (false = atB p o c s) := (at_no (by omega)).symm
    generalize atB p o c s = r at *
    go_enter Tryd.func52, Tryd.ntmps52
    go_wp2_with fail
    go_ret
    exact ⟨ret_bool HR.out, by go_grown⟩
theorem check_n (p o c s : Int) (w : World) : Calls Tryd.prog 38 #[.agg #[.int .i64 p, .int .i64 o, .int .i64 c, .int .i64 s]] w fun e w' => e = .returned (.int .i64 (chk p o c s)) ∧ Below w.heap.size w w' := by
  have K1 := Lib.hid (fun w => isNone_n p o c s w)
  have K2 := Lib.hid (fun w => isAtPlace_n p o c s w)
  cases h1 : noneB p o c s
  · cases h2 : atB p o c s
    · have HR : Hid (2 = chk p o c s) := by show _ = _; unfold chk; rw [h1, h2]; rfl
      rw [h1] at K1
      rw [h2] at K2
      generalize chk p o c s = r at *
      clear h1 h2
      go_enter Tryd.func38, Tryd.ntmps38
      go_wp2_with fail
      refine (K1.out _).mono ?_
      rintro e w1 ⟨rfl, b1⟩
      have B1 := Lib.hid (over (w := w) (by go_grown) b1)
      have HB := (Bs.made w p o c s).below b1
      have g0 := HB.c0
      have g1 := HB.c1
      have g2 := HB.c2
      have g3 := HB.c3
      clear HB b1
      go_wp2_with fail
      refine (K2.out _).mono ?_
      rintro e w2 ⟨rfl, b2⟩
      have B2 := Lib.hid (over B1.out b2)
      clear b2
      go_wp2_with fail
      go_ret
      exact ⟨ret_int HR.out, B2.out⟩
    · have HR : Hid (0 = chk p o c s) := by show _ = _; unfold chk; rw [h1, h2]; rfl
      rw [h1] at K1
      rw [h2] at K2
      generalize chk p o c s = r at *
      clear h1 h2
      go_enter Tryd.func38, Tryd.ntmps38
      go_wp2_with fail
      refine (K1.out _).mono ?_
      rintro e w1 ⟨rfl, b1⟩
      have B1 := Lib.hid (over (w := w) (by go_grown) b1)
      have HB := (Bs.made w p o c s).below b1
      have g0 := HB.c0
      have g1 := HB.c1
      have g2 := HB.c2
      have g3 := HB.c3
      clear HB b1
      go_wp2_with fail
      refine (K2.out _).mono ?_
      rintro e w2 ⟨rfl, b2⟩
      have B2 := Lib.hid (over B1.out b2)
      clear b2
      go_wp2_with fail
      go_ret
      exact ⟨ret_int HR.out, B2.out⟩
  · have HR : Hid (0 = chk p o c s) := by show _ = _; unfold chk; rw [h1]; rfl
    rw [h1] at K1
    generalize chk p o c s = r at *
    clear h1
    go_enter Tryd.func38, Tryd.ntmps38
    go_wp2_with fail
    refine (K1.out _).mono ?_
    rintro e w1 ⟨rfl, b1⟩
    have B1 := Lib.hid (over (w := w) (by go_grown) b1)
    clear b1
    go_wp2_with fail
    go_ret
    exact ⟨ret_int HR.out, B1.out⟩

end Go.Proofs.YtalfonpkefhlmaaDoor.V

