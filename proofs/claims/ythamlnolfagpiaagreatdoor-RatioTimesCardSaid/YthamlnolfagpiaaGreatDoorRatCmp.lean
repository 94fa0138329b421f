/-
  DERIVED. The walks of ratio's exported functions: compare.
-/
import Derived.Test.YthamlnolfagpiaaGreatDoorRatNum
import Derived.Test.YthamlnolfagpiaaGreatDoorRatBase
namespace Go.Proofs.YthamlnolfagpiaaGreatDoor.D
open Go.RowKit
set_option maxRecDepth 8000

set_option maxHeartbeats 1000000 in
theorem cmpq_l (s' x y : Int) (l' : ByteArray) (ha : 18 ≤ nd x.natAbs) (hx : nd x.natAbs ≤ 4096) (h2 : Rp s' l' y) (c : Int) (hc : cmpI x y = c) (w : World) (ht : Tab w) :
    Calls Tryz.prog 52 #[.agg #[.int .i64 0, .string (inum x)], .agg #[.int .i64 s', .string l']] w fun e w' => e = .returned (.int .i64 c) ∧ Below w.heap.size w w' := by
  have h1 := Rp.long ha hx
  have T1 := Lib.hid (fun w ht => text_z 0 x (inum x) h1 w ht)
  have T2 := Lib.hid (fun w ht => text_z s' y l' h2 w ht)
  have hy := h2.nd
  have hA := inum_ne x
  have hB := inum_ne2 x
  have hC := inum_some x
  have HCC := Lib.hid hc
  have TM := Lib.hid (fun w ht => wCompare_num x y (by have := sz_nd hx; omega) (by have := sz_nd hy; omega) w ht)
  clear h1 h2 hx hy hc
  go_enter Tryz.func52, Tryz.ntmps52
  go_wp2_with fail
  go_region_held3 (fun w' => w'.cell? ⟨w.heap.size, 0, none⟩ = some (.int .i64 0) ∧ w'.cell? ⟨w.heap.size, 1, none⟩ = some (.string (inum x)) ∧ w'.cell? ⟨w.heap.size + 1, 0, none⟩ = some (.int .i64 s') ∧ w'.cell? ⟨w.heap.size + 1, 1, none⟩ = some (.string l'))
    (first
      | (go_split_ands
         refine ⟨?_, ?_, ?_, ?_⟩ <;> first
           | with_reducible assumption
           | ((with_reducible refine Below.keepc b3 ?_); (with_reducible assumption))
           | ((with_reducible refine Below.keepc b2 ?_); (with_reducible assumption))
           | ((with_reducible refine Below.keepc b1 ?_); (with_reducible assumption)))
      | go_keep)
    (first
      | (go_at_call 39; (with_reducible refine (T1.out _ ?_).mono ?_); (exact ht.over (by go_grown)); rintro e w1 ⟨rfl, b1⟩; have B1 := Below.over (w := w) (by go_grown) b1)
      | (go_at_call 39; (with_reducible refine (T2.out _ ?_).mono ?_); (exact ht.over (by go_grown)); rintro e w2 ⟨rfl, b2⟩; have B2 := Below.over (w := w) (by go_grown) b2)
      | (go_at_call 92; (with_reducible refine (TM.out _ ?_).mono ?_); (exact ht.over (by go_grown)); rintro e w3 ⟨rfl, b3⟩; have B3 := Below.over (w := w) (by go_grown) b3))
  all_goals
    go_wp2_with fail
    go_ret
    exact ⟨ret_int HCC.out, B3⟩
set_option maxHeartbeats 1000000 in
theorem cmpq_r (x y : Int) (hx1 : -9223372036854775808 < x) (hx2 : x < 9223372036854775808) (hb : 18 ≤ nd y.natAbs) (hy : nd y.natAbs ≤ 4096) (c : Int) (hc : cmpI x y = c) (w : World) (ht : Tab w) :
    Calls Tryz.prog 52 #[.agg #[.int .i64 x, .string ⟨#[]⟩], .agg #[.int .i64 0, .string (inum y)]] w fun e w' => e = .returned (.int .i64 c) ∧ Below w.heap.size w w' := by
  have h1 := Rp.short hx1 hx2
  have h2 := Rp.long hb hy
  have hx := h1.nd
  have T1 := Lib.hid (fun w ht => text_z x x ⟨#[]⟩ h1 w ht)
  have T2 := Lib.hid (fun w ht => text_z 0 y (inum y) h2 w ht)
  have hA := inum_ne y
  have hB := inum_ne2 y
  have hC := inum_some y
  have HCC := Lib.hid hc
  have TM := Lib.hid (fun w ht => wCompare_num x y (by have := sz_nd hx; omega) (by have := sz_nd hy; omega) w ht)
  clear h1 h2 hx hy hc
  go_enter Tryz.func52, Tryz.ntmps52
  go_wp2_with fail
  go_region_held3 (fun w' => w'.cell? ⟨w.heap.size, 0, none⟩ = some (.int .i64 x) ∧ w'.cell? ⟨w.heap.size, 1, none⟩ = some (.string ⟨#[]⟩) ∧ w'.cell? ⟨w.heap.size + 1, 0, none⟩ = some (.int .i64 0) ∧ w'.cell? ⟨w.heap.size + 1, 1, none⟩ = some (.string (inum y)))
    (first
      | (go_split_ands
         refine ⟨?_, ?_, ?_, ?_⟩ <;> first
           | with_reducible assumption
           | ((with_reducible refine Below.keepc b3 ?_); (with_reducible assumption))
           | ((with_reducible refine Below.keepc b2 ?_); (with_reducible assumption))
           | ((with_reducible refine Below.keepc b1 ?_); (with_reducible assumption)))
      | go_keep)
    (first
      | (go_at_call 39; (with_reducible refine (T1.out _ ?_).mono ?_); (exact ht.over (by go_grown)); rintro e w1 ⟨rfl, b1⟩; have B1 := Below.over (w := w) (by go_grown) b1)
      | (go_at_call 39; (with_reducible refine (T2.out _ ?_).mono ?_); (exact ht.over (by go_grown)); rintro e w2 ⟨rfl, b2⟩; have B2 := Below.over (w := w) (by go_grown) b2)
      | (go_at_call 92; (with_reducible refine (TM.out _ ?_).mono ?_); (exact ht.over (by go_grown)); rintro e w3 ⟨rfl, b3⟩; have B3 := Below.over (w := w) (by go_grown) b3))
  all_goals
    go_wp2_with fail
    go_ret
    exact ⟨ret_int HCC.out, B3⟩
theorem cmpq_s (x y c : Int) (hc : cmpI x y = c) (w : World) :
    Calls Tryz.prog 52 #[.agg #[.int .i64 x, .string ⟨#[]⟩], .agg #[.int .i64 y, .string ⟨#[]⟩]] w fun e w' => e = .returned (.int .i64 c) ∧ Below w.heap.size w w' := by
  have HC := Lib.hid hc
  clear hc
  go_enter Tryz.func52, Tryz.ntmps52
  go_wp2_with fail
  refine (compare_int x y _).mono ?_
  rintro e w' ⟨rfl, rfl⟩
  go_wp2_with fail
  go_ret
  exact ⟨ret_int HC.out, by go_grown⟩
theorem cmpq_z (s s' x y c : Int) (l l' : ByteArray) (hc : cmpI x y = c) (h1 : Rp s l x) (h2 : Rp s' l' y) (w : World) (ht : Tab w) :
    Calls Tryz.prog 52 #[.agg #[.int .i64 s, .string l], .agg #[.int .i64 s', .string l']] w fun e w' => e = .returned (.int .i64 c) ∧ Below w.heap.size w w' := by
  rcases h1 with ⟨rfl, rfl, a1, a2⟩ | ⟨rfl, rfl, a1, a2⟩
  · rcases h2 with ⟨rfl, rfl, c1, c2⟩ | ⟨rfl, rfl, c1, c2⟩
    · exact cmpq_s s s' c hc w
    · exact cmpq_r s y a1 a2 c1 c2 c hc w ht
  · exact cmpq_l s' x y l' a1 a2 h2 c hc w ht

end Go.Proofs.YthamlnolfagpiaaGreatDoor.D

