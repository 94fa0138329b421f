/-
  DERIVED. The walks of ratio's integers: quotient through texts.
-/
import Derived.Test.YthamlnolfagpiaaGreatDoorRatNum
import Derived.Deep.LoopGhost
namespace Go.Proofs.YthamlnolfagpiaaGreatDoor.D
open Go.RowKit
set_option maxRecDepth 8000

set_option maxHeartbeats 1000000 in
theorem quo_l (s' x y : Int) (l' : ByteArray) (Q R : Int) (hy0 : y ≠ 0) (hQ : Hid (fdv x y = Q)) (hR : Hid (fmd x y = R)) (hk : nd Q.natAbs ≤ 4096) (ha : 18 ≤ nd x.natAbs) (hx : nd x.natAbs ≤ 4096) (h2 : Rp s' l' y) (w : World) (ht : Tab w) :
    Calls Tryz.prog 46 #[.agg #[.int .i64 0, .string (inum x)], .agg #[.int .i64 s', .string l']] w fun e w' => RpPost Q w e w' := by
  have h1 := Rp.long ha hx
  have T1 := Lib.hid (fun w ht => text_z 0 x (inum x) h1 w ht)
  have T2 := Lib.hid (fun w ht => text_z s' y l' h2 w ht)
  have hy := h2.nd
  have TM := Lib.hid (fun w ht => wDiv_num x y Q R hy0 hQ hR hx hy w ht)
  clear hQ hR hy0
  clear h1 h2
  have hA := inum_ne x
  have hB := inum_ne2 x
  have hC := inum_some x
  go_enter Tryz.func46, Tryz.ntmps46
  go_wp2_with fail
  go_region_with (first
    | (go_at_call 39; (with_reducible refine (T1.out _ ?_).mono ?_); (exact ht.over (by go_grown)); rintro e w1 ⟨rfl, b1⟩; obtain ⟨x6, x7, x8⟩ := bi3 (w := w) (Below.undrew b1); have x70 := x7.c0; have x71 := x7.c1; have B1 := Below.over (w := w) (by go_grown) b1)
    | (go_at_call 39; (with_reducible refine (T2.out _ ?_).mono ?_); (exact ht.over B1); rintro e w2 ⟨rfl, b2⟩; have B2 := Below.over B1 b2)
    | (go_at_call 83; (with_reducible refine (TM.out _ ?_).mono ?_); (exact ht.over B2); rintro e w3 ⟨rfl, b3⟩; have B3 := Below.over B2 b3))
  all_goals
    have y8 := (x8.under b2).under b3
    clear b1 b2 T1 T2 TM
    go_wp2_with fail
    refine (integerOf_z Q hk _).mono ?_
    rintro e w4 ⟨s4, l4, rfl, HR, b4⟩
    have B4 := Below.over B3 b4
    have z8 := y8.under b4
    have r0 := z8.c0
    have r1 := z8.c1
    have f0 := z8.f0
    have f1 := z8.f1
    have hs4 := B4.size
    go_wp2_with fail
    have hF := z8.put s4 l4
    have g0 := hF.c0
    have g1 := hF.c1
    refine bodyPost_ret (v := .agg #[.int .i64 s4, .string l4]) (by simp [results, Tryz.results46, go_sem, g0, g1]) rfl ⟨_, _, rfl, HR, by go_grown⟩


set_option maxHeartbeats 1000000 in
theorem quo_r (x y : Int) (Q R : Int) (hy0 : y ≠ 0) (hQ : Hid (fdv x y = Q)) (hR : Hid (fmd x y = R)) (hk : nd Q.natAbs ≤ 4096) (hx1 : -9223372036854775808 < x) (hx2 : x < 9223372036854775808) (hb : 18 ≤ nd y.natAbs) (hy : nd y.natAbs ≤ 4096) (w : World) (ht : Tab w) :
    Calls Tryz.prog 46 #[.agg #[.int .i64 x, .string ⟨#[]⟩], .agg #[.int .i64 0, .string (inum y)]] w fun e w' => RpPost Q w e w' := by
  have h1 := Rp.short hx1 hx2
  have h2 := Rp.long hb hy
  have hx := h1.nd
  have T1 := Lib.hid (fun w ht => text_z x x ⟨#[]⟩ h1 w ht)
  have T2 := Lib.hid (fun w ht => text_z 0 y (inum y) h2 w ht)
  have TM := Lib.hid (fun w ht => wDiv_num x y Q R hy0 hQ hR hx hy w ht)
  clear hQ hR hy0
  clear h1 h2
  have hA := inum_ne y
  have hB := inum_ne2 y
  have hC := inum_some y
  go_enter Tryz.func46, Tryz.ntmps46
  go_wp2_with fail
  go_region_with (first
    | (go_at_call 39; (with_reducible refine (T1.out _ ?_).mono ?_); (exact ht.over (by go_grown)); rintro e w1 ⟨rfl, b1⟩; obtain ⟨x6, x7, x8⟩ := bi3 (w := w) (Below.undrew b1); have x70 := x7.c0; have x71 := x7.c1; have B1 := Below.over (w := w) (by go_grown) b1)
    | (go_at_call 39; (with_reducible refine (T2.out _ ?_).mono ?_); (exact ht.over B1); rintro e w2 ⟨rfl, b2⟩; have B2 := Below.over B1 b2)
    | (go_at_call 83; (with_reducible refine (TM.out _ ?_).mono ?_); (exact ht.over B2); rintro e w3 ⟨rfl, b3⟩; have B3 := Below.over B2 b3))
  all_goals
    have y8 := (x8.under b2).under b3
    clear b1 b2 T1 T2 TM
    go_wp2_with fail
    refine (integerOf_z Q hk _).mono ?_
    rintro e w4 ⟨s4, l4, rfl, HR, b4⟩
    have B4 := Below.over B3 b4
    have z8 := y8.under b4
    have r0 := z8.c0
    have r1 := z8.c1
    have f0 := z8.f0
    have f1 := z8.f1
    have hs4 := B4.size
    go_wp2_with fail
    have hF := z8.put s4 l4
    have g0 := hF.c0
    have g1 := hF.c1
    refine bodyPost_ret (v := .agg #[.int .i64 s4, .string l4]) (by simp [results, Tryz.results46, go_sem, g0, g1]) rfl ⟨_, _, rfl, HR, by go_grown⟩


end Go.Proofs.YthamlnolfagpiaaGreatDoor.D

