/-
  DERIVED. The walks of ratio's exported functions: Make.
-/
import Derived.Test.YthamlnolfagpiaaGreatDoorRatTops
namespace Go.Proofs.YthamlnolfagpiaaGreatDoor.D
open Go.RowKit
set_option maxRecDepth 8000

theorem make_bad_l (a b : ByteArray) (h : rightI a.data.toList = false) (ha : a.size ≤ 100000) (w : World) :
    Calls Tryz.prog 32 #[.string a, .string b] w fun e w' => e = .returned (.tuple #[.string ⟨#[]⟩, .int .i64 3]) ∧ Below w.heap.size w w' := by
  have T1 := Lib.hid (fun w => right_b a false (Lib.hid h) (by omega) w)
  clear h
  go_enter Tryz.func32, Tryz.ntmps32
  go_wp2_with fail
  refine (T1.out _).mono ?_
  rintro e w1 ⟨rfl, b1⟩
  go_wp2_with fail
  go_ret2
  exact ⟨rfl, b1⟩
theorem make_bad_r (a b : ByteArray) (h1 : rightI a.data.toList = true) (h : rightI b.data.toList = false) (ha : a.size ≤ 100000) (hb : b.size ≤ 100000) (w : World) :
    Calls Tryz.prog 32 #[.string a, .string b] w fun e w' => e = .returned (.tuple #[.string ⟨#[]⟩, .int .i64 3]) ∧ Below w.heap.size w w' := by
  have T1 := Lib.hid (fun w => right_b a true (Lib.hid h1) (by omega) w)
  have T2 := Lib.hid (fun w => right_b b false (Lib.hid h) (by omega) w)
  clear h h1
  go_enter Tryz.func32, Tryz.ntmps32
  go_wp2_with fail
  refine (T1.out _).mono ?_
  rintro e w1 ⟨rfl, b1⟩
  go_wp2_with fail
  refine (T2.out _).mono ?_
  rintro e w2 ⟨rfl, b2⟩
  go_wp2_with fail
  go_ret2
  exact ⟨rfl, Below.over b1 b2⟩
theorem rMake_bad (a b : ByteArray) (h : rightI a.data.toList = false ∨ rightI b.data.toList = false) (ha : a.size ≤ 100000) (hb : b.size ≤ 100000) (w : World) (_ht : Tab w) :
    Calls Tryz.prog 32 #[.string a, .string b] w fun e w' => e = .returned (.tuple #[.string ⟨#[]⟩, .int .i64 3]) ∧ Below w.heap.size w w' := by
  cases h1 : rightI a.data.toList
  · exact make_bad_l a b h1 ha w
  · rcases h with h | h
    · rw [h] at h1; cases h1
    · exact make_bad_r a b h1 h ha hb w
theorem rMake_zero (x : Int) (hx : nd x.natAbs ≤ 1900) (w : World) (_ht : Tab w) :
    Calls Tryz.prog 32 #[.string (inum x), .string (inum 0)] w fun e w' => e = .returned (.tuple #[.string ⟨#[]⟩, .int .i64 10]) ∧ Below w.heap.size w w' := by
  obtain ⟨y, hy0⟩ : ∃ y : Int, y = 0 := ⟨_, rfl⟩
  have hy : nd y.natAbs ≤ 1900 := by rw [hy0]; exact Nat.le_trans (nd_le _ 0 (by decide)) (by omega)
  rw [← hy0]
  have T1 := Lib.hid (fun w => right_b (inum x) true (right_inum x) (inum_le hx (by omega)) w)
  have T2 := Lib.hid (fun w => right_b (inum y) true (right_inum y) (inum_le hy (by omega)) w)
  have L1 := Lib.hid (fun w => isLong_b (inum x) false (Lib.hid (by rw [dz_inum]; exact decide_eq_false (by omega))) w)
  have L2 := Lib.hid (fun w => isLong_b (inum y) false (Lib.hid (by rw [dz_inum]; exact decide_eq_false (by omega))) w)
  have hz := zero_eqI y
  rw [decide_eq_true hy0] at hz
  clear hx hy hy0
  go_enter Tryz.func32, Tryz.ntmps32
  go_wp2_with fail
  refine (T1.out _).mono ?_
  rintro e w1 ⟨rfl, b1⟩
  go_wp2_with fail
  refine (T2.out _).mono ?_
  rintro e w2 ⟨rfl, b2⟩
  have B2 := Below.over b1 b2
  clear b1 b2 T1 T2
  go_wp2_with fail
  refine (L1.out _).mono ?_
  rintro e w' ⟨rfl, rfl⟩
  go_wp2_with fail
  refine (L2.out _).mono ?_
  rintro e w' ⟨rfl, rfl⟩
  clear L1 L2
  go_wp2_with fail
  go_ret2
  exact ⟨rfl, B2⟩
theorem Bi.all' {w : World} {n : Nat} {s : Int} {l : ByteArray} (h : Bi w n s l) : w.cell? ⟨n, 0, none⟩ = some (.int .i64 s) ∧ w.cell? ⟨n, 1, none⟩ = some (.string l) ∧ w.frozen? ⟨n, 0, none⟩ = false ∧ w.frozen? ⟨n, 1, none⟩ = false := ⟨h.c0, h.c1, h.f0, h.f1⟩
set_option maxHeartbeats 1000000 in
theorem make_pos (x y : Int) (r : Rat) (h0 : 0 < y) (hr : Rat.divInt x y = r) (hx : nd x.natAbs ≤ 1900) (hy : nd y.natAbs ≤ 1900) (w : World) (ht : Tab w) :
    Calls Tryz.prog 32 #[.string (inum x), .string (inum y)] w fun e w' => e = .returned (.tuple #[.string (rtx r), .int .i64 0]) ∧ Below w.heap.size w w' := by
  have T1 := Lib.hid (fun w => right_b (inum x) true (right_inum x) (inum_le hx (by omega)) w)
  have T2 := Lib.hid (fun w => right_b (inum y) true (right_inum y) (inum_le hy (by omega)) w)
  have L1 := Lib.hid (fun w => isLong_b (inum x) false (Lib.hid (by rw [dz_inum]; exact decide_eq_false (by omega))) w)
  have L2 := Lib.hid (fun w => isLong_b (inum y) false (Lib.hid (by rw [dz_inum]; exact decide_eq_false (by omega))) w)
  have hz := zero_eqI y
  rw [decide_eq_false (by omega)] at hz
  have I1 := Lib.hid (fun w => integerOf_z x (by omega) w)
  have I2 := Lib.hid (fun w => integerOf_z y (by omega) w)
  have hq : mkRat (x) y.natAbs = r := by rw [← divInt_pos, ← hr]; congr 1; omega
  have HSG : Hid (sgnI y = 1) := by show _ = _; rw [sgnI, if_neg (by omega), if_neg (by omega)]
  have TD := Lib.hid (fun s1 l1 s2 l2 (h1 : Rp s1 l1 (x)) (h2 : Rp s2 l2 (y.natAbs : Int)) w ht => reduce_z s1 s2 _ l1 l2 y.natAbs r (by omega) hq h1 h2 w ht)
  have TR := Lib.hid (fun t1 t2 k1 k2 j1 j2 w ht => result_z t1 t2 k1 k2 r j1 j2 w ht)
  have HY : Hid (y = (y.natAbs : Int)) := by show _ = _; omega
  clear hx hy hr hq h0
  go_enter Tryz.func32, Tryz.ntmps32
  go_wp2_with fail
  refine (T1.out _).mono ?_
  rintro e w1 ⟨rfl, b1⟩
  go_wp2_with fail
  refine (T2.out _).mono ?_
  rintro e w2 ⟨rfl, b2⟩
  have B2 := Below.over b1 b2
  clear b1 b2 T1 T2
  go_wp2_with fail
  refine (L1.out _).mono ?_
  rintro e w' ⟨rfl, rfl⟩
  go_wp2_with fail
  refine (L2.out _).mono ?_
  rintro e w' ⟨rfl, rfl⟩
  clear L1 L2
  go_wp2_with fail
  refine (I1.out _).mono ?_
  rintro e w3 ⟨s3, l3, rfl, h3, b3⟩
  have B3 := Below.over B2 b3
  go_wp2_with fail
  refine (I2.out _).mono ?_
  rintro e w4 ⟨s4, l4, rfl, h4, b4⟩
  have B4 := Below.over B3 b4
  clear b3 b4 I1 I2 B2 B3
  have k4 := B4.size
  have x6 := (Bi.made w4 _ rfl s3 l3).alloc (.cells #[.int .i64 s4, .string l4] 46)
  have x7 := Bi.made (w4.alloc (.cells #[.int .i64 s3, .string l3] 46)) (w4.heap.size + 1) (by simp) s4 l4
  have BX : Below w.heap.size w ((w4.alloc (.cells #[.int .i64 s3, .string l3] 46)).alloc (.cells #[.int .i64 s4, .string l4] 46)) := (B4.alloc B4.size _).alloc (Nat.le_trans B4.size (by simp)) _
  have c0 := x6.c0
  have c1 := x6.c1
  have c2 := x7.c0
  have c3 := x7.c1
  go_wp2_with fail
  refine (sign_z s4 y l4 _ HSG h4 _ (ht.over BX)).mono ?_
  rintro e w5 ⟨rfl, b5⟩
  have B5 := Below.over BX b5
  replace x6 := x6.under b5
  replace x7 := x7.under b5
  clear c0 c1 c2 c3 b5 BX
  obtain ⟨c0, c1, c4, c5⟩ := x6.all'
  obtain ⟨c2, c3, c6, c7⟩ := x7.all'
  go_wp2_with fail
  refine (TD.out s3 l3 s4 l4 h3 (by rw [← HY.out]; exact h4) _ (ht.over B5)).mono ?_
  rintro e w8 ⟨t1, k1, t2, k2, rfl, j1, j2, b8⟩
  have B8 := Below.over (w := w) (by go_grown) b8
  go_wp2_with fail
  refine (TR.out t1 t2 k1 k2 j1 j2 _ (ht.over B8)).mono ?_
  rintro e w9 ⟨rfl, b9⟩
  go_wp2_with fail
  go_ret2
  exact ⟨rfl, Below.over B8 b9⟩
set_option maxHeartbeats 1000000 in
theorem make_neg (x y : Int) (r : Rat) (h0 : y < 0) (hr : Rat.divInt x y = r) (hx : nd x.natAbs ≤ 1900) (hy : nd y.natAbs ≤ 1900) (w : World) (ht : Tab w) :
    Calls Tryz.prog 32 #[.string (inum x), .string (inum y)] w fun e w' => e = .returned (.tuple #[.string (rtx r), .int .i64 0]) ∧ Below w.heap.size w w' := by
  have T1 := Lib.hid (fun w => right_b (inum x) true (right_inum x) (inum_le hx (by omega)) w)
  have T2 := Lib.hid (fun w => right_b (inum y) true (right_inum y) (inum_le hy (by omega)) w)
  have L1 := Lib.hid (fun w => isLong_b (inum x) false (Lib.hid (by rw [dz_inum]; exact decide_eq_false (by omega))) w)
  have L2 := Lib.hid (fun w => isLong_b (inum y) false (Lib.hid (by rw [dz_inum]; exact decide_eq_false (by omega))) w)
  have hz := zero_eqI y
  rw [decide_eq_false (by omega)] at hz
  have I1 := Lib.hid (fun w => integerOf_z x (by omega) w)
  have I2 := Lib.hid (fun w => integerOf_z y (by omega) w)
  have hq : mkRat (-x) y.natAbs = r := by rw [← divInt_pos, ← hr, divInt_neg x y]; congr 1; omega
  have HSG : Hid (sgnI y = -1) := by show _ = _; rw [sgnI, if_pos h0]
  have TD := Lib.hid (fun s1 l1 s2 l2 (h1 : Rp s1 l1 (-x)) (h2 : Rp s2 l2 (y.natAbs : Int)) w ht => reduce_z s1 s2 _ l1 l2 y.natAbs r (by omega) hq h1 h2 w ht)
  have TR := Lib.hid (fun t1 t2 k1 k2 j1 j2 w ht => result_z t1 t2 k1 k2 r j1 j2 w ht)
  have HY : Hid (-y = (y.natAbs : Int)) := by show _ = _; omega
  clear hx hy hr hq h0
  go_enter Tryz.func32, Tryz.ntmps32
  go_wp2_with fail
  refine (T1.out _).mono ?_
  rintro e w1 ⟨rfl, b1⟩
  go_wp2_with fail
  refine (T2.out _).mono ?_
  rintro e w2 ⟨rfl, b2⟩
  have B2 := Below.over b1 b2
  clear b1 b2 T1 T2
  go_wp2_with fail
  refine (L1.out _).mono ?_
  rintro e w' ⟨rfl, rfl⟩
  go_wp2_with fail
  refine (L2.out _).mono ?_
  rintro e w' ⟨rfl, rfl⟩
  clear L1 L2
  go_wp2_with fail
  refine (I1.out _).mono ?_
  rintro e w3 ⟨s3, l3, rfl, h3, b3⟩
  have B3 := Below.over B2 b3
  go_wp2_with fail
  refine (I2.out _).mono ?_
  rintro e w4 ⟨s4, l4, rfl, h4, b4⟩
  have B4 := Below.over B3 b4
  clear b3 b4 I1 I2 B2 B3
  have k4 := B4.size
  have x6 := (Bi.made w4 _ rfl s3 l3).alloc (.cells #[.int .i64 s4, .string l4] 46)
  have x7 := Bi.made (w4.alloc (.cells #[.int .i64 s3, .string l3] 46)) (w4.heap.size + 1) (by simp) s4 l4
  have BX : Below w.heap.size w ((w4.alloc (.cells #[.int .i64 s3, .string l3] 46)).alloc (.cells #[.int .i64 s4, .string l4] 46)) := (B4.alloc B4.size _).alloc (Nat.le_trans B4.size (by simp)) _
  have c0 := x6.c0
  have c1 := x6.c1
  have c2 := x7.c0
  have c3 := x7.c1
  go_wp2_with fail
  refine (sign_z s4 y l4 _ HSG h4 _ (ht.over BX)).mono ?_
  rintro e w5 ⟨rfl, b5⟩
  have B5 := Below.over BX b5
  replace x6 := x6.under b5
  replace x7 := x7.under b5
  clear c0 c1 c2 c3 b5 BX
  obtain ⟨c0, c1, c4, c5⟩ := x6.all'
  obtain ⟨c2, c3, c6, c7⟩ := x7.all'
  go_wp2_with fail
  have O1 := Lib.hid (fun w ht => opposite_i s3 x (-x) l3 (Lib.hid rfl) h3 w ht)
  have O2 := Lib.hid (fun w ht => opposite_i s4 y (y.natAbs : Int) l4 HY h4 w ht)
  have kn := B5.size
  go_region_with (first
    | (go_at_call 48; (with_reducible refine (O1.out _ ?_).mono ?_); (exact ht.over (by go_grown)); rintro e w6 ⟨s6, l6, rfl, h6, b6⟩; have B6 := Below.over (w := w) (by go_grown) b6; have y6 := x6.under (Below.undrew b6); have y7 := x7.under (Below.undrew b6); obtain ⟨d0, d1, d4, d5⟩ := y6.all'; obtain ⟨d2, d3, d6, d7⟩ := y7.all')
    | (go_at_call 48; (with_reducible refine (O2.out _ ?_).mono ?_); (exact ht.over (by go_grown)); rintro e w7 ⟨s7, l7, rfl, h7, b7⟩; have B7 := Below.over (w := w) (by go_grown) b7; have z6 := y6.under b7; have z7 := y7.under b7; obtain ⟨f0, f1, f4, f5⟩ := z6.all'; obtain ⟨f2, f3, f6, f7⟩ := z7.all'))
  all_goals
    have k7 := B7.size
    have u6 := ((z6.put s6 l6).far (p := ⟨w4.heap.size + 1, 0, none⟩) (by dsimp only; omega) (.int .i64 s7)).far (p := ⟨w4.heap.size + 1, 1, none⟩) (by dsimp only; omega) (.string l7)
    have u7 := ((z7.far (p := ⟨w4.heap.size, 0, none⟩) (by dsimp only; omega) (.int .i64 s6)).far (p := ⟨w4.heap.size, 1, none⟩) (by dsimp only; omega) (.string l6)).put s7 l7
    have v6 := ((z6.far (p := ⟨w4.heap.size + 1, 0, none⟩) (by dsimp only; omega) (.int .i64 s7)).far (p := ⟨w4.heap.size + 1, 1, none⟩) (by dsimp only; omega) (.string l7)).put s6 l6
    have v7 := ((z7.put s7 l7).far (p := ⟨w4.heap.size, 0, none⟩) (by dsimp only; omega) (.int .i64 s6)).far (p := ⟨w4.heap.size, 1, none⟩) (by dsimp only; omega) (.string l6)
    obtain ⟨m0, m1, _, _⟩ := u6.all'
    obtain ⟨m2, m3, _, _⟩ := u7.all'
    obtain ⟨m4, m5, _, _⟩ := v6.all'
    obtain ⟨m6, m7, _, _⟩ := v7.all'
    go_wp2_with fail
    refine (TD.out s6 l6 s7 l7 h6 h7 _ (ht.over (by go_grown))).mono ?_
    rintro e w8 ⟨t1, k1, t2, k2, rfl, j1, j2, b8⟩
    have B8 := Below.over (w := w) (by go_grown) b8
    go_wp2_with fail
    refine (TR.out t1 t2 k1 k2 j1 j2 _ (ht.over B8)).mono ?_
    rintro e w9 ⟨rfl, b9⟩
    go_wp2_with fail
    go_ret2
    exact ⟨rfl, Below.over B8 b9⟩
theorem rMake_num (x y : Int) (r : Rat) (h0 : y ≠ 0) (hr : Rat.divInt x y = r) (hx : nd x.natAbs ≤ 1900) (hy : nd y.natAbs ≤ 1900) (w : World) (ht : Tab w) :
    Calls Tryz.prog 32 #[.string (inum x), .string (inum y)] w fun e w' => e = .returned (.tuple #[.string (rtx r), .int .i64 0]) ∧ Below w.heap.size w w' := by
  by_cases h : y < 0
  · exact make_neg x y r h hr hx hy w ht
  · exact make_pos x y r (by omega) hr hx hy w ht

end Go.Proofs.YthamlnolfagpiaaGreatDoor.D

