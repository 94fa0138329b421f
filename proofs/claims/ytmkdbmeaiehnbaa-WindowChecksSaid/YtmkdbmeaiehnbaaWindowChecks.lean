/-
  DERIVED. The walk of the law WindowChecks.
-/
import Derived.Test.YtmkdbmeaiehnbaaWinLaw
namespace Go.Proofs.Ytmkdbmeaiehnbaa.V
open Go.RowKit
set_option maxRecDepth 8000

set_option maxHeartbeats 1000000 in
theorem windowChecks_walk (p o c s : Int) (w : World) : Calls Try.prog 3 #[.agg #[.int .i64 p, .int .i64 o, .int .i64 c, .int .i64 s]] w fun e w' => e = .returned (.bool true) ∧ Below w.heap.size w w' := by
  have K1 := Lib.hid (fun w => check_n p o c s w)
  have K2 := Lib.hid (fun w => refCheck_n p o c s w)
  have KW := Lib.hid awake_n
  generalize chk p o c s = r at *
  have HB := Bs.made w p o c s
  have BW := below_alloc w (.cells #[.int .i64 p, .int .i64 o, .int .i64 c, .int .i64 s] 23)
  have HB : Bs (w.alloc (.cells #[.int .i64 p, .int .i64 o, .int .i64 c, .int .i64 s] 23)).drew w.heap.size p o c s := HB
  have BW : Below w.heap.size w (w.alloc (.cells #[.int .i64 p, .int .i64 o, .int .i64 c, .int .i64 s] 23)).drew := ⟨BW.os, BW.tape, BW.output, BW.size, BW.block⟩
  go_enter Try.func3, Try.ntmps3
  go_wp2_with fail
  go_region_with (first
    | (go_at_call 8; with_reducible refine (K1.out _).mono ?_; rintro e wm ⟨rfl, bm⟩; have HB := Bs.below HB bm; have BW := over BW bm; have g0 := HB.c0; have g1 := HB.c1; have g2 := HB.c2; have g3 := HB.c3)
    | (go_at_call 9; with_reducible refine (K2.out _).mono ?_; rintro e wm ⟨rfl, bm⟩; have HB := Bs.below HB bm; have BW := over BW bm; have g0 := HB.c0; have g1 := HB.c1; have g2 := HB.c2; have g3 := HB.c3)
    | (go_at_call 10; with_reducible refine (KW.out _).mono ?_; rintro e wm ⟨rfl, bm⟩; have BW := over BW bm))
  all_goals
    go_wp2_with fail
    go_ret
    exact ⟨rfl, BW⟩

end Go.Proofs.Ytmkdbmeaiehnbaa.V
