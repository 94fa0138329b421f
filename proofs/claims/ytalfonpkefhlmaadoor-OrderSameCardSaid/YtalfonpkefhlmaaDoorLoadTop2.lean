/-
  DERIVED. The walks of loads: plus, minus, greater, quotientUp, combine, Add, Sub, Trips.
-/
import Derived.Test.YtalfonpkefhlmaaDoorLoadTop1
namespace Go.Proofs.YtalfonpkefhlmaaDoor.L
open Go.RowKit
set_option maxRecDepth 8000

theorem plus_n (x y : Int) (h : -4611686018427387904 ≤ addF x y ∧ addF x y ≤ 4611686018427387904) (w : World) : Calls Tryd.prog 32 #[.int .i64 x, .int .i64 y] w fun e w' => e = .returned (.int .i64 (addF x y)) ∧ w = w' := by
  have HR : Hid (x + y = addF x y) := rfl
  have hb : -4611686018427387904 ≤ x + y ∧ x + y ≤ 4611686018427387904 := h
  generalize addF x y = r at *
  go_enter Tryd.func32, Tryd.ntmps32
  go_wp2_with fail
  go_ret
  exact ⟨ret_int HR.out, rfl⟩
theorem rep_getD (n k : Nat) : (List.replicate n (0 : Int)).getD k 0 = 0 := by
  rw [List.getD_eq_getElem?_getD, List.getElem?_replicate]; split <;> rfl
end Go.Proofs.YtalfonpkefhlmaaDoor.L

