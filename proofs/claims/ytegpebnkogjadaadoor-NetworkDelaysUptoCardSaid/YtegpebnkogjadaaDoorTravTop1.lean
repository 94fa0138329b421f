/-
  DERIVED. The walks of travel: isTick, isTooLong, isPoint, isBefore.
-/
import Derived.Test.YtegpebnkogjadaaDoorTravDec
namespace Go.Proofs.YtegpebnkogjadaaDoor.T
open Go.RowKit
set_option maxRecDepth 8000

theorem isTick_n (t : Int) (w : World) : Calls Tryd.prog 75 #[.int .i64 t] w fun e w' => e = .returned (.bool (tickB t)) ∧ w = w' := by
  by_cases h1 : 0 ≤ t
  · have HR : Hid (decide (t ≤ 4096) = tickB t) := by show _ = _; unfold tickB; rw [decide_eq_true h1, Bool.true_and]
    generalize tickB t = r at *
    go_enter Tryd.func75, Tryd.ntmps75
    go_wp2_with fail
    go_ret
    exact ⟨ret_bool HR.out, rfl⟩
  · have HR : Hid (false = tickB t) := by show _ = _; unfold tickB; rw [decide_eq_false h1, Bool.false_and]
    have h2 : t < 0 := by omega
    generalize tickB t = r at *
    go_enter Tryd.func75, Tryd.ntmps75
    go_wp2_with fail
    go_ret
    exact ⟨ret_bool HR.out, rfl⟩
theorem isTooLong_n (x y : Int) (h0 : 0 ≤ x) (h1 : x ≤ 4096) (w : World) : Calls Tryd.prog 76 #[.agg #[.int .i64 x, .int .i64 y]] w fun e w' => e = .returned (.bool (longB (x, y))) ∧ Below w.heap.size w w' := by
  have HR : Hid (decide (x + 4096 < y) = longB (x, y)) := rfl
  generalize longB (x, y) = r at *
  go_enter Tryd.func76, Tryd.ntmps76
  go_wp2_with fail
  go_ret
  exact ⟨ret_bool HR.out, by go_grown⟩
theorem isPoint_n (x y : Int) (w : World) : Calls Tryd.prog 71 #[.agg #[.int .i64 x, .int .i64 y]] w fun e w' => e = .returned (.bool (pointB (x, y))) ∧ Below w.heap.size w w' := by
  have K := Lib.hid (fun w => isTick_n x w)
  cases ht : tickB x
  · have HR : Hid (false = pointB (x, y)) := by show _ = _; unfold pointB; rw [show tickB (x, y).1 = false from ht]; rfl
    rw [ht] at K
    generalize pointB (x, y) = r at *
    clear ht
    go_enter Tryd.func71, Tryd.ntmps71
    go_wp2_with fail
    refine (K.out _).mono ?_
    rintro e w1 ⟨rfl, rfl⟩
    go_wp2_with fail
    go_ret
    exact ⟨ret_bool HR.out, by go_grown⟩
  · have hb : 0 ≤ x ∧ x ≤ 4096 := by unfold tickB at ht; simpa using ht
    obtain ⟨hb0, hb1⟩ := hb
    rw [ht] at K
    by_cases h : x ≤ y
    · have HR : Hid ((!longB (x, y)) = pointB (x, y)) := by show _ = _; unfold pointB; rw [show tickB (x, y).1 = true from ht, decide_eq_true h]; rfl
      have L := Lib.hid (fun w => isTooLong_n x y hb0 hb1 w)
      generalize pointB (x, y) = r at *
      generalize longB (x, y) = q at *
      clear ht
      go_enter Tryd.func71, Tryd.ntmps71
      go_wp2_with fail
      refine (K.out _).mono ?_
      rintro e w1 ⟨rfl, rfl⟩
      go_wp2_with fail
      refine (L.out _).mono ?_
      rintro e w1 ⟨rfl, b1⟩
      have B1 := Lib.hid (over (w := w) (by go_grown) b1)
      clear b1
      go_wp2_with fail
      go_ret
      exact ⟨ret_bool HR.out, B1.out⟩
    · have HR : Hid (false = pointB (x, y)) := by show _ = _; unfold pointB; rw [decide_eq_false h, Bool.false_and, Bool.and_false]
      have h2 : y < x := by omega
      generalize pointB (x, y) = r at *
      clear ht
      go_enter Tryd.func71, Tryd.ntmps71
      go_wp2_with fail
      refine (K.out _).mono ?_
      rintro e w1 ⟨rfl, rfl⟩
      go_wp2_with fail
      go_ret
      exact ⟨ret_bool HR.out, by go_grown⟩
theorem isBefore_n (x y x' y' : Int) (w : World) : Calls Tryd.prog 72 #[.agg #[.int .i64 x, .int .i64 y], .agg #[.int .i64 x', .int .i64 y']] w fun e w' => e = .returned (.bool (beforeB (x, y) (x', y'))) ∧ Below w.heap.size w w' := by
  by_cases h : x < x'
  · have HR : Hid (decide (y ≤ y') = beforeB (x, y) (x', y')) := by show _ = _; unfold beforeB; rw [show decide ((x, y).1 < (x', y').1) = true from decide_eq_true h, Bool.true_and]
    generalize beforeB (x, y) (x', y') = r at *
    go_enter Tryd.func72, Tryd.ntmps72
    go_wp2_with fail
    go_ret
    exact ⟨ret_bool HR.out, by go_grown⟩
  · have HR : Hid (false = beforeB (x, y) (x', y')) := by show _ = _; unfold beforeB; rw [show decide ((x, y).1 < (x', y').1) = false from decide_eq_false h, Bool.false_and]
    have h2 : x' ≤ x := by omega
    generalize beforeB (x, y) (x', y') = r at *
    go_enter Tryd.func72, Tryd.ntmps72
    go_wp2_with fail
    go_ret
    exact ⟨ret_bool HR.out, by go_grown⟩

end Go.Proofs.YtegpebnkogjadaaDoor.T

