/-
  DERIVED. The walks of ratio's integers: quotient of ints.
-/
import Derived.Test.YthamlnolfagpiaaGreatDoorRatNum
import Derived.Deep.LoopGhost
namespace Go.Proofs.YthamlnolfagpiaaGreatDoor.D
open Go.RowKit
set_option maxRecDepth 8000

set_option maxHeartbeats 1000000 in
theorem quo_short_neg (x y Q : Int) (hx1 : -9223372036854775808 < x) (hx2 : x < 9223372036854775808) (hy1 : 0 < y) (hy2 : y < 9223372036854775808) (h0 : x.tmod y < 0) (hQ : Hid (x / y = Q)) (w : World) :
    Calls Tryz.prog 46 #[.agg #[.int .i64 x, .string ⟨#[]⟩], .agg #[.int .i64 y, .string ⟨#[]⟩]] w fun e w' => RpPost Q w e w' := by
  have hv0 : (y == 0) = false := beq_eq_false_iff_ne.2 (by omega)
  have hm1 := tmod_bd x y
  have hd1 := tdiv_bd x y
  have hm2 := tmod_less (x := x) (y := y) (by omega)
  have ht1 := tdiv_down x y hy1
  obtain ⟨m, hm⟩ : ∃ m, x.tmod y = m := ⟨_, rfl⟩
  obtain ⟨d, hd⟩ : ∃ d, x.tdiv y = d := ⟨_, rfl⟩
  have hw1 : IntKind.i64.wrap (x.tmod y) = m := by rw [hm] at hm1 ⊢; exact IntWalk.i64_in _ (by omega)
  have hw2 : IntKind.i64.wrap (x.tdiv y) = d := by rw [hd] at hd1 ⊢; exact IntWalk.i64_in _ (by omega)
  have hw3 : wrap64 (x.tmod y) = m := (IntWalk.i64_left _).symm.trans hw1
  have hw4 : wrap64 (x.tdiv y) = d := (IntWalk.i64_left _).symm.trans hw2
  have e0 := h0
  rw [hm] at e0 hm1 hm2 ht1
  rw [hd] at hd1 ht1
  have HQ : Hid (d - 1 = Q) := by show _ = _; rw [← hQ.out]; exact ht1.1 e0
  have hb0 := Int.natAbs_ediv_le_natAbs x y
  have hq0 := HQ.out.trans hQ.out.symm
  have hb1 : -9223372036854775808 < d - 1 ∧ d - 1 < 9223372036854775808 := by clear hw1 hw2 hw3 hw4 hm hd; omega
  have HR : Rp (d - 1) ⟨#[]⟩ Q := by
    have := HQ.out
    rw [this] at hb1 ⊢
    exact Rp.short hb1.1 hb1.2
  clear hQ ht1 h0 hb0 hq0 hb1
  go_enter Tryz.func46, Tryz.ntmps46
  go_wp2_with fail
  refine bodyPost_ret (v := .agg #[.int .i64 (d - 1), .string ⟨#[]⟩]) (by simp [results, Tryz.results46, go_sem]) rfl ⟨_, _, rfl, HR, by go_grown⟩

set_option maxHeartbeats 1000000 in
theorem quo_short_pos (x y Q : Int) (hx1 : -9223372036854775808 < x) (hx2 : x < 9223372036854775808) (hy1 : 0 < y) (hy2 : y < 9223372036854775808) (h0 : 0 ≤ x.tmod y) (hQ : Hid (x / y = Q)) (w : World) :
    Calls Tryz.prog 46 #[.agg #[.int .i64 x, .string ⟨#[]⟩], .agg #[.int .i64 y, .string ⟨#[]⟩]] w fun e w' => RpPost Q w e w' := by
  have hv0 : (y == 0) = false := beq_eq_false_iff_ne.2 (by omega)
  have hm1 := tmod_bd x y
  have hd1 := tdiv_bd x y
  have hm2 := tmod_less (x := x) (y := y) (by omega)
  have ht1 := tdiv_down x y hy1
  obtain ⟨m, hm⟩ : ∃ m, x.tmod y = m := ⟨_, rfl⟩
  obtain ⟨d, hd⟩ : ∃ d, x.tdiv y = d := ⟨_, rfl⟩
  have hw1 : IntKind.i64.wrap (x.tmod y) = m := by rw [hm] at hm1 ⊢; exact IntWalk.i64_in _ (by omega)
  have hw2 : IntKind.i64.wrap (x.tdiv y) = d := by rw [hd] at hd1 ⊢; exact IntWalk.i64_in _ (by omega)
  have hw3 : wrap64 (x.tmod y) = m := (IntWalk.i64_left _).symm.trans hw1
  have hw4 : wrap64 (x.tdiv y) = d := (IntWalk.i64_left _).symm.trans hw2
  have e0 := h0
  rw [hm] at e0 hm1 hm2 ht1
  rw [hd] at hd1 ht1
  have HQ : Hid (d = Q) := by show _ = _; rw [← hQ.out]; exact ht1.2 e0
  have hb0 := Int.natAbs_ediv_le_natAbs x y
  have hq0 := HQ.out.trans hQ.out.symm
  have hb1 : -9223372036854775808 < d ∧ d < 9223372036854775808 := by clear hw1 hw2 hw3 hw4 hm hd; omega
  have HR : Rp (d) ⟨#[]⟩ Q := by
    have := HQ.out
    rw [this] at hb1 ⊢
    exact Rp.short hb1.1 hb1.2
  clear hQ ht1 h0 hb0 hq0 hb1
  go_enter Tryz.func46, Tryz.ntmps46
  go_wp2_with fail
  refine bodyPost_ret (v := .agg #[.int .i64 (d), .string ⟨#[]⟩]) (by simp [results, Tryz.results46, go_sem]) rfl ⟨_, _, rfl, HR, by go_grown⟩

end Go.Proofs.YthamlnolfagpiaaGreatDoor.D

