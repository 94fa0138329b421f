/-
  DERIVED. The walk of the laws' examples; small helpers of the laws.
-/
import Derived.Test.YtcnagcdgpgijaaaLoadTop3
namespace Go.Proofs.Ytcnagcdgpgijaaa.L
open Go.RowKit
set_option maxRecDepth 8000

theorem lit1 (w : World) (x : Int) : Li (w.alloc (.cells #[.int .i64 x] 3)) (.slice (some ⟨w.heap.size, 0, none⟩) 1 1) [x] := by
  refine ⟨some ⟨w.heap.size, 0, none⟩, 1, rfl, fun i hi => ⟨_, rfl, by simp, ?_⟩⟩
  match i, hi with
  | 0, _ => simp [Addr.add]
theorem lit2 (w : World) (x y : Int) : Li (w.alloc (.cells #[.int .i64 x, .int .i64 y] 3)) (.slice (some ⟨w.heap.size, 0, none⟩) 2 2) [x, y] := by
  refine ⟨some ⟨w.heap.size, 0, none⟩, 2, rfl, fun i hi => ⟨_, rfl, by simp, ?_⟩⟩
  match i, hi with
  | 0, _ => simp [Addr.add]
  | 1, _ => simp [Addr.add]
theorem lit2b (w : World) (x y z u : Int) : Li ((w.alloc (.cells #[.int .i64 x, .int .i64 y] 3)).alloc (.cells #[.int .i64 z, .int .i64 u] 3)) (.slice (some ⟨w.heap.size + 1, 0, none⟩) 2 2) [z, u] := by
  have := lit2 (w.alloc (.cells #[.int .i64 x, .int .i64 y] 3)) z u
  simpa using this
theorem lit1b (w : World) (x z : Int) : Li ((w.alloc (.cells #[.int .i64 x] 3)).alloc (.cells #[.int .i64 z] 3)) (.slice (some ⟨w.heap.size + 1, 0, none⟩) 1 1) [z] := by
  have := lit1 (w.alloc (.cells #[.int .i64 x] 3)) z
  simpa using this
theorem below_alloc (w : World) (o : Obj) : Below w.heap.size w (w.alloc o) := (Below.refl _ w).alloc (Nat.le_refl _) o
theorem below_alloc2 (w : World) (o o2 : Obj) : Below w.heap.size w ((w.alloc o).alloc o2) := over (below_alloc w o) (below_alloc _ o2)
theorem lit2a (w : World) (x y z u : Int) : Li ((w.alloc (.cells #[.int .i64 x, .int .i64 y] 3)).alloc (.cells #[.int .i64 z, .int .i64 u] 3)) (.slice (some ⟨w.heap.size, 0, none⟩) 2 2) [x, y] :=
  (lit2 w x y).below (below_alloc _ _)
theorem lit1a (w : World) (x z : Int) : Li ((w.alloc (.cells #[.int .i64 x] 3)).alloc (.cells #[.int .i64 z] 3)) (.slice (some ⟨w.heap.size, 0, none⟩) 1 1) [x] :=
  (lit1 w x).below (below_alloc _ _)

theorem ex_sub : combL subF [5, 3] [2, 4] = [3, -1] := by decide
theorem ex_subE : combE [5, 3] [2, 4] = 0 := by decide
theorem ex_trips : tripsR [25, 10] [10, 10] = (3, 0) := by decide +kernel
theorem ex_trips2 : tripsR [1] [0] = (0, 24) := by decide +kernel
theorem ex_most : gathL maxF [] 2 = [0, 0] := by decide +kernel
theorem ex_mostE : gathE [] 2 = 0 := by decide +kernel
theorem ex_fit : Fit2 subF [5, 3] [2, 4] := by
  intro k hk
  match k, hk with
  | 0, _ => decide
  | 1, _ => decide

set_option maxHeartbeats 1600000 in
theorem examples_n (w : World) :
    Calls Try.prog 13 #[] w fun e w' => e = .returned (.bool true) ∧ Below w.heap.size w w' := by
  have H1 := Lib.hid (fun w => loadSub_n _ _ [5, 3] [2, 4] (by decide) ex_fit _ (lit2a w 5 3 2 4) (lit2b w 5 3 2 4))
  rw [ex_sub, ex_subE] at H1
  have H2 := Lib.hid (fun w => loadTrips_n _ _ [25, 10] [10, 10] 3 0 ex_trips (by decide) (by decide) (by decide) _ (lit2a w 25 10 10 10) (lit2b w 25 10 10 10))
  have H3 := Lib.hid (fun w => loadTrips_n _ _ [1] [0] 0 24 ex_trips2 (by decide) (by decide) (by decide) _ (lit1a w 1 0) (lit1b w 1 0))
  have H4 := Lib.hid (fun w => loadMost_n _ [] 2 (by decide) w (Ls.nil w))
  rw [ex_most, ex_mostE] at H4
  have H5 := Lib.hid (fun w => loadRight_n _ [0, 1000] 2 (by decide) _ (lit2 w 0 1000))
  rw [show rightB [0, 1000] 2 = true by decide] at H5
  have H6 := Lib.hid (fun w => loadRight_n _ [1001] 1 (by decide) _ (lit1 w 1001))
  rw [show rightB [1001] 1 = false by decide] at H6
  go_enter Try.func13, Try.ntmps13
  go_wp2_with fail
  refine (H1.out _).mono ?_
  rintro e w1 ⟨v1, rfl, hv1, b1⟩
  have HB1 := Lib.hid (over (below_alloc2 w _ _) b1)
  have HV1 := Lib.hid hv1.li
  clear b1 hv1
  go_wp2_with fail
  refine (H2.out _).mono ?_
  rintro e w2 ⟨rfl, hw2⟩
  have HB2 := Lib.hid (below_alloc2 w1 (.cells #[.int .i64 25, .int .i64 10] 3) (.cells #[.int .i64 10, .int .i64 10] 3))
  rw [hw2] at HB2
  clear hw2
  go_wp2_with fail
  refine (H3.out _).mono ?_
  rintro e w3 ⟨rfl, hw3⟩
  have HB3 := Lib.hid (below_alloc2 w2 (.cells #[.int .i64 1] 3) (.cells #[.int .i64 0] 3))
  rw [hw3] at HB3
  clear hw3
  go_wp2_with fail
  refine (H4.out _).mono ?_
  rintro e w4 ⟨v4, rfl, hv4, b4⟩
  have HV4 := Lib.hid hv4.li
  have HB4 := Lib.hid (over (over HB2.out HB3.out) b4)
  clear b4 hv4 HB2 HB3
  go_wp2_with fail
  refine (same_n v1 _ [3, -1] [3, -1] (by decide) _ (HV1.out.below (over HB4.out (below_alloc _ _))) (lit2 w4 3 (-1))).mono ?_
  rintro e w5 ⟨rfl, b5⟩
  have HB5 := Lib.hid (over (below_alloc w4 _) b5)
  clear b5
  go_wp2_with fail
  refine (same_n v4 _ [0, 0] [0, 0] (by decide) _ (HV4.out.below (over HB5.out (below_alloc _ _))) (lit2 w5 0 0)).mono ?_
  rintro e w6 ⟨rfl, b6⟩
  have HB6 := Lib.hid (over (below_alloc w5 _) b6)
  clear b6
  go_wp2_with fail
  refine (H5.out _).mono ?_
  rintro e w7 ⟨rfl, hw7⟩
  have HB7 := Lib.hid (below_alloc w6 (.cells #[.int .i64 0, .int .i64 1000] 3))
  rw [hw7] at HB7
  clear hw7
  go_wp2_with fail
  refine (H6.out _).mono ?_
  rintro e w8 ⟨rfl, hw8⟩
  have HB8 := Lib.hid (below_alloc w7 (.cells #[.int .i64 1001] 3))
  rw [hw8] at HB8
  clear hw8
  go_wp2_with fail
  go_ret
  exact ⟨rfl, over (over (over (over (over HB1.out HB4.out) HB5.out) HB6.out) HB7.out) HB8.out⟩

end Go.Proofs.Ytcnagcdgpgijaaa.L
