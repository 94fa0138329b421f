/-
  DERIVED. The walks of the small functions of order's Check (written by gen_ordtop4.py).
-/
import Derived.Test.YtalfonpkefhlmaaDoorOrdTop1
import Derived.Test.YtalfonpkefhlmaaDoorWinTop1
import Derived.Test.YtalfonpkefhlmaaDoorLoadTop1
import Derived.Test.YtalfonpkefhlmaaDoorLex
import Derived.Deep.RegionHeld3
namespace Go.Proofs.YtalfonpkefhlmaaDoor.T
open Go.RowKit
set_option maxRecDepth 8000

def rgN (x c : Int) : Bool := decide (-1 ≤ x) && decide (x < c)
theorem isNumberOrNone_n (x c : Int) (w : World) : Calls Tryd.prog 50 #[.int .i64 x, .int .i64 c] w fun e w' => e = .returned (.bool (rgN x c)) ∧ w = w' := by
  by_cases h1 : -1 ≤ x
  · have HR : Hid (decide (x < c) = rgN x c) := by show _ = _; unfold rgN; rw [decide_eq_true h1, Bool.true_and]
    generalize rgN x c = r at *
    go_enter Tryd.func50, Tryd.ntmps50
    go_wp2_with fail
    go_ret
    exact ⟨ret_bool HR.out, rfl⟩
  · have HR : Hid (false = rgN x c) := by show _ = _; unfold rgN; rw [decide_eq_false h1, Bool.false_and]
    have h2 : x < -1 := by omega
    generalize rgN x c = r at *
    go_enter Tryd.func50, Tryd.ntmps50
    go_wp2_with fail
    go_ret
    exact ⟨ret_bool HR.out, rfl⟩
theorem isFrom_n (lo x hi : Int) (w : World) : Calls Tryd.prog 39 #[.int .i64 lo, .int .i64 x, .int .i64 hi] w fun e w' => e = .returned (.bool (rgB lo hi x)) ∧ w = w' := by
  by_cases h1 : lo ≤ x
  · have HR : Hid (decide (x ≤ hi) = rgB lo hi x) := by show _ = _; unfold rgB; rw [decide_eq_true h1, Bool.true_and]
    generalize rgB lo hi x = r at *
    go_enter Tryd.func39, Tryd.ntmps39
    go_wp2_with fail
    go_ret
    exact ⟨ret_bool HR.out, rfl⟩
  · have HR : Hid (false = rgB lo hi x) := by show _ = _; unfold rgB; rw [decide_eq_false h1, Bool.false_and]
    have h2 : x < lo := by omega
    generalize rgB lo hi x = r at *
    go_enter Tryd.func39, Tryd.ntmps39
    go_wp2_with fail
    go_ret
    exact ⟨ret_bool HR.out, rfl⟩
theorem hasPlace_n (pl dm ty p o c s : Int) (w : World) : Calls Tryd.prog 37 #[.agg #[.int .i64 pl, .int .i64 dm, .int .i64 ty], .agg #[.int .i64 p, .int .i64 o, .int .i64 c, .int .i64 s]] w fun e w' => e = .returned (.bool (rgN p pl)) ∧ Below w.heap.size w w' := by
  have K := Lib.hid (fun w => isNumberOrNone_n p pl w)
  generalize rgN p pl = r at *
  go_enter Tryd.func37, Tryd.ntmps37
  go_wp2_with fail
  refine (K.out _).mono ?_
  rintro e w1 ⟨rfl, rfl⟩
  go_wp2_with fail
  go_ret
  exact ⟨rfl, by go_grown⟩
theorem isType_n (pl dm ty x : Int) (w : World) : Calls Tryd.prog 41 #[.agg #[.int .i64 pl, .int .i64 dm, .int .i64 ty], .int .i64 x] w fun e w' => e = .returned (.bool (rgN x ty)) ∧ Below w.heap.size w w' := by
  have K := Lib.hid (fun w => isNumberOrNone_n x ty w)
  generalize rgN x ty = r at *
  go_enter Tryd.func41, Tryd.ntmps41
  go_wp2_with fail
  refine (K.out _).mono ?_
  rintro e w1 ⟨rfl, rfl⟩
  go_wp2_with fail
  go_ret
  exact ⟨rfl, by go_grown⟩
set_option maxHeartbeats 1600000 in
theorem isSplit_one (nm : ByteArray) (vc : Value) (pp po pc ps dp dd dc ds sk pen las now : Int) (off : Bool) (w : World) :
    Calls Tryd.prog 40 #[.agg #[.string nm, vc, .int .i64 pp, .int .i64 po, .int .i64 pc, .int .i64 ps, .int .i64 dp, .int .i64 dd, .int .i64 dc, .int .i64 ds, .int .i64 sk, .int .i64 pen, .int .i64 1, .int .i64 las, .int .i64 now, .bool off]] w fun e w' => e = .returned (.bool true) ∧ Below w.heap.size w w' := by
  go_enter Tryd.func40, Tryd.ntmps40
  go_wp2_with fail
  go_ret
  exact ⟨rfl, by go_grown⟩
theorem name_a (w : World) : Calls Tryd.prog 35 #[.string ⟨#[97]⟩] w fun e w' => e = .returned (.bool true) ∧ Below w.heap.size w w' := by
  have := name_any ⟨#[97]⟩ w
  rw [show nameB (⟨#[97]⟩ : ByteArray).data.toList = true by decide +kernel] at this
  exact this.mono fun _ _ ⟨he, hw⟩ => ⟨he, hw ▸ Below.refl _ _⟩
theorem right_a (u : Value) (w : World) (hu : L.Li w u [3]) : Calls Tryd.prog 36 #[u, .int .i64 1] w fun e w' => e = .returned (.bool true) ∧ Below w.heap.size w w' := by
  have := L.loadRight_n u [3] 1 (by simp) w hu
  rw [show L.rightB [3] 1 = true by decide +kernel] at this
  exact this.mono fun _ _ ⟨he, hw⟩ => ⟨he, hw ▸ Below.refl _ _⟩
theorem place_a (w : World) : Calls Tryd.prog 37 #[.agg #[.int .i64 2, .int .i64 1, .int .i64 1], .agg #[.int .i64 (-1), .int .i64 0, .int .i64 0, .int .i64 0]] w fun e w' => e = .returned (.bool true) ∧ Below w.heap.size w w' := hasPlace_n 2 1 1 (-1) 0 0 0 w
theorem place_b (w : World) : Calls Tryd.prog 37 #[.agg #[.int .i64 2, .int .i64 1, .int .i64 1], .agg #[.int .i64 1, .int .i64 0, .int .i64 9, .int .i64 0]] w fun e w' => e = .returned (.bool true) ∧ Below w.heap.size w w' := hasPlace_n 2 1 1 1 0 9 0 w
theorem win_a (w : World) : Calls Tryd.prog 38 #[.agg #[.int .i64 (-1), .int .i64 0, .int .i64 0, .int .i64 0]] w fun e w' => e = .returned (.int .i64 0) ∧ Below w.heap.size w w' := V.check_n (-1) 0 0 0 w
theorem win_b (w : World) : Calls Tryd.prog 38 #[.agg #[.int .i64 1, .int .i64 0, .int .i64 9, .int .i64 0]] w fun e w' => e = .returned (.int .i64 0) ∧ Below w.heap.size w w' := V.check_n 1 0 9 0 w
theorem from_a (w : World) : Calls Tryd.prog 39 #[.int .i64 0, .int .i64 0, .int .i64 1073741823] w fun e w' => e = .returned (.bool true) ∧ Below w.heap.size w w' := (isFrom_n 0 0 1073741823 w).mono fun _ _ ⟨he, hw⟩ => ⟨he, hw ▸ Below.refl _ _⟩
theorem from_b (w : World) : Calls Tryd.prog 39 #[.int .i64 (-1), .int .i64 (-1), .int .i64 1000000] w fun e w' => e = .returned (.bool true) ∧ Below w.heap.size w w' := (isFrom_n (-1) (-1) 1000000 w).mono fun _ _ ⟨he, hw⟩ => ⟨he, hw ▸ Below.refl _ _⟩
theorem type_a (w : World) : Calls Tryd.prog 41 #[.agg #[.int .i64 2, .int .i64 1, .int .i64 1], .int .i64 (-1)] w fun e w' => e = .returned (.bool true) ∧ Below w.heap.size w w' := isType_n 2 1 1 (-1) w
theorem split_a (g : Nat) (w : World) : Calls Tryd.prog 40 #[.agg #[.string ⟨#[97]⟩, .slice (some ⟨g, 0, none⟩) 1 1, .int .i64 (-1), .int .i64 0, .int .i64 0, .int .i64 0, .int .i64 1, .int .i64 0, .int .i64 9, .int .i64 0, .int .i64 0, .int .i64 (-1), .int .i64 1, .int .i64 (-1), .int .i64 (-1), .bool false]] w fun e w' => e = .returned (.bool true) ∧ Below w.heap.size w w' := isSplit_one ⟨#[97]⟩ (.slice (some ⟨g, 0, none⟩) 1 1) (-1) 0 0 0 1 0 9 0 0 (-1) (-1) (-1) false w

end Go.Proofs.YtalfonpkefhlmaaDoor.T

