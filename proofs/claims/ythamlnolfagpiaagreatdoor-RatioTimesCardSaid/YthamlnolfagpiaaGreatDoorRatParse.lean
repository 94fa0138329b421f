/-
  DERIVED. Merged by mkrat.py: RatParse, RatParse2, RatPair.
-/
import Derived.Test.YthamlnolfagpiaaGreatDoorRatFracs
import Derived.Test.YthamlnolfagpiaaGreatDoorRatCut
import Derived.Test.YthamlnolfagpiaaGreatDoorRatInt4
namespace Go.Proofs.YthamlnolfagpiaaGreatDoor.D
open Go.RowKit
set_option maxRecDepth 8000

/-- what parse leaves where the text is not right -/
def BadPost (w : World) (e : Ending) (w' : World) : Prop :=
  e = .returned (.tuple #[.agg #[.int .i64 0, .string ⟨#[]⟩, .int .i64 0, .string ⟨#[]⟩], .bool false]) ∧ Below w.heap.size w w'
/-- what parse leaves of a right text -/
def GoodPost (r : Rat) (w : World) (e : Ending) (w' : World) : Prop :=
  ∃ (s : Int) (l : ByteArray) (s' : Int) (l' : ByteArray), e = .returned (.tuple #[.agg #[.int .i64 s, .string l, .int .i64 s', .string l'], .bool true]) ∧ Rp s l r.num ∧ Rp s' l' (r.den : Int) ∧ Below w.heap.size w w'
theorem dz_num (n : Nat) : dz (num n) = nd n := by
  have := dz_inum (n : Int)
  rwa [inum_nat, Int.natAbs_natCast] at this
theorem one_eqN (n : Nat) : ((num n).toList == [49]) = decide (n = 1) := by
  have h1 : ([49] : List UInt8) = (num 1).toList := by rw [ByteArray.toList_eq, num_data, dec_small (by omega)]; rfl
  rw [h1, eq_num]

theorem parse_c1 (s : ByteArray) (hn : noSl s.data.toList = true) (hr : rightI s.data.toList = false) (hs : s.size ≤ 100000) (w : World) (_ht : Tab w) :
    Calls Tryz.prog 38 #[.string s] w fun e w' => BadPost w e w' := by
  have TC := Lib.hid (fun w => cutS_none s hn w)
  have TR := Lib.hid (fun w => right_b s false (Lib.hid (hr)) (by omega) w)
  clear hn hr
  go_enter Tryz.func38, Tryz.ntmps38
  go_wp2_with fail
  refine (TC.out _).mono ?_
  rintro e w1 ⟨rfl, rfl⟩
  go_wp2_with fail
  refine (TR.out _).mono ?_
  rintro e w2 ⟨rfl, b2⟩
  have x2 := bf1 (w := w) b2
  have B2 := Below.over (w := w) (by go_grown) b2
  clear b2 TR
  obtain ⟨c0, c1, c2, c3, f0, f1, f2, f3⟩ := x2.cells
  have hsz := B2.size
  go_wp2_with fail
  have hF := x2.put 0 ⟨#[]⟩ 0 ⟨#[]⟩
  have g0 := hF.c0
  have g1 := hF.c1
  have g2 := hF.c2
  have g3 := hF.c3
  refine bodyPost_ret (v := .tuple #[.agg #[.int .i64 0, .string ⟨#[]⟩, .int .i64 0, .string ⟨#[]⟩], .bool false]) (by simp [results, Tryz.results38, go_sem, g0, g1, g2, g3]) rfl ⟨rfl, by go_grown⟩

theorem parse_c2 (z : Int) (hz : 4096 < nd z.natAbs) (hs : (inum z).size ≤ 100000) (w : World) (_ht : Tab w) :
    Calls Tryz.prog 38 #[.string (inum z)] w fun e w' => BadPost w e w' := by
  have hn : noSl (inum z).data.toList = true := noSl_inum z
  have TC := Lib.hid (fun w => cutS_none (inum z) hn w)
  have TR := Lib.hid (fun w => right_b (inum z) true (Lib.hid (rightI_inum z)) (by omega) w)
  have TL := Lib.hid (fun w => isLong_b (inum z) true (Lib.hid (by rw [dz_inum]; exact decide_eq_true hz)) w)
  clear hn hz
  go_enter Tryz.func38, Tryz.ntmps38
  go_wp2_with fail
  refine (TC.out _).mono ?_
  rintro e w1 ⟨rfl, rfl⟩
  go_wp2_with fail
  refine (TR.out _).mono ?_
  rintro e w2 ⟨rfl, b2⟩
  have x2 := bf1 (w := w) b2
  have B2 := Below.over (w := w) (by go_grown) b2
  clear b2 TR
  go_wp2_with fail
  refine (TL.out _).mono ?_
  rintro e w' ⟨rfl, rfl⟩
  obtain ⟨c0, c1, c2, c3, f0, f1, f2, f3⟩ := x2.cells
  have hsz := B2.size
  go_wp2_with fail
  have hF := x2.put 0 ⟨#[]⟩ 0 ⟨#[]⟩
  have g0 := hF.c0
  have g1 := hF.c1
  have g2 := hF.c2
  have g3 := hF.c3
  refine bodyPost_ret (v := .tuple #[.agg #[.int .i64 0, .string ⟨#[]⟩, .int .i64 0, .string ⟨#[]⟩], .bool false]) (by simp [results, Tryz.results38, go_sem, g0, g1, g2, g3]) rfl ⟨rfl, by go_grown⟩

theorem parse_c3 (z : Int) (hz : nd z.natAbs ≤ 4096) (w : World) (_ht : Tab w) :
    Calls Tryz.prog 38 #[.string (inum z)] w fun e w' => GoodPost (z : Rat) w e w' := by
  have hs : (inum z).size ≤ 100000 := by have := sz_nd hz; omega
  have hn : noSl (inum z).data.toList = true := noSl_inum z
  have TC := Lib.hid (fun w => cutS_none (inum z) hn w)
  have TR := Lib.hid (fun w => right_b (inum z) true (Lib.hid (rightI_inum z)) (by omega) w)
  have TL := Lib.hid (fun w => isLong_b (inum z) false (Lib.hid (by rw [dz_inum]; exact decide_eq_false (by omega))) w)
  have TI := Lib.hid (fun w => integerOf_z z hz w)
  have E1 : Hid ((z : Rat).num = z) := Rat.num_intCast z
  have E2 : Hid ((z : Rat).den = 1) := Rat.den_intCast z
  clear hn hz
  go_enter Tryz.func38, Tryz.ntmps38
  go_wp2_with fail
  refine (TC.out _).mono ?_
  rintro e w1 ⟨rfl, rfl⟩
  go_wp2_with fail
  refine (TR.out _).mono ?_
  rintro e w2 ⟨rfl, b2⟩
  have x2 := bf1 (w := w) b2
  have B2 := Below.over (w := w) (by go_grown) b2
  clear b2 TR
  go_wp2_with fail
  refine (TL.out _).mono ?_
  rintro e w' ⟨rfl, rfl⟩
  go_wp2_with fail
  refine (TI.out _).mono ?_
  rintro e w3 ⟨s3, l3, rfl, h3, b3⟩
  have x3 := x2.under b3
  have B3 := Below.over B2 b3
  clear b3 x2 B2 TI TL
  go_wp2_with fail
  refine (fromInteger_z s3 l3 _).mono ?_
  rintro e w4 ⟨rfl, b4⟩
  have x4 := x3.under b4
  have B4 := Below.over B3 b4
  clear b4 x3 B3
  obtain ⟨c0, c1, c2, c3, f0, f1, f2, f3⟩ := x4.cells
  have hsz := B4.size
  go_wp2_with fail
  have hF := x4.put s3 l3 1 ⟨#[]⟩
  have g0 := hF.c0
  have g1 := hF.c1
  have g2 := hF.c2
  have g3 := hF.c3
  refine bodyPost_ret (v := .tuple #[.agg #[.int .i64 s3, .string l3, .int .i64 1, .string ⟨#[]⟩], .bool true]) (by simp [results, Tryz.results38, go_sem, g0, g1, g2, g3]) rfl ⟨_, _, _, _, rfl, by rw [E1.out]; exact h3, by rw [E2.out]; exact one_rp, by go_grown⟩

theorem parse_c4 (s p q : ByteArray) (hp : noSl p.data.toList = true) (h : s.data.toList = p.data.toList ++ 47 :: q.data.toList) (hs : s.size ≤ 100000) (hr : rightI p.data.toList = false) (w : World) (_ht : Tab w) :
    Calls Tryz.prog 38 #[.string s] w fun e w' => BadPost w e w' := by
  have hsz := half_size s p q h
  have TC := Lib.hid (fun w => cutS_some s p q hp h (by omega) w)
  have TR := Lib.hid (fun w => right_b p false (Lib.hid (hr)) (by omega) w)
  clear h hp hr
  go_enter Tryz.func38, Tryz.ntmps38
  go_wp2_with fail
  refine (TC.out _).mono ?_
  rintro e w1 ⟨rfl, b1⟩
  have x1 := bf1 (w := w) b1
  have B1 := Below.over (w := w) (by go_grown) b1
  clear b1 TC
  go_wp2_with fail
  refine (TR.out _).mono ?_
  rintro e w2 ⟨rfl, b2⟩
  have x2 := x1.under b2
  have B2 := Below.over B1 b2
  clear b2 TR x1 B1
  obtain ⟨c0, c1, c2, c3, f0, f1, f2, f3⟩ := x2.cells
  have hsz := B2.size
  go_wp2_with fail
  have hF := x2.put 0 ⟨#[]⟩ 0 ⟨#[]⟩
  have g0 := hF.c0
  have g1 := hF.c1
  have g2 := hF.c2
  have g3 := hF.c3
  refine bodyPost_ret (v := .tuple #[.agg #[.int .i64 0, .string ⟨#[]⟩, .int .i64 0, .string ⟨#[]⟩], .bool false]) (by simp [results, Tryz.results38, go_sem, g0, g1, g2, g3]) rfl ⟨rfl, by go_grown⟩

theorem parse_c5 (s q : ByteArray) (z : Int) (h : s.data.toList = (inum z).data.toList ++ 47 :: q.data.toList) (hs : s.size ≤ 100000) (hz : 4096 < nd z.natAbs) (w : World) (_ht : Tab w) :
    Calls Tryz.prog 38 #[.string s] w fun e w' => BadPost w e w' := by
  have hsz := half_size s (inum z) q h
  have TC := Lib.hid (fun w => cutS_some s (inum z) q (noSl_inum z) h (by omega) w)
  have TR := Lib.hid (fun w => right_b (inum z) true (Lib.hid (rightI_inum z)) (by omega) w)
  have TL := Lib.hid (fun w => isLong_b (inum z) true (Lib.hid (by rw [dz_inum]; exact decide_eq_true hz)) w)
  clear h hz
  go_enter Tryz.func38, Tryz.ntmps38
  go_wp2_with fail
  refine (TC.out _).mono ?_
  rintro e w1 ⟨rfl, b1⟩
  have x1 := bf1 (w := w) b1
  have B1 := Below.over (w := w) (by go_grown) b1
  clear b1 TC
  go_wp2_with fail
  refine (TR.out _).mono ?_
  rintro e w2 ⟨rfl, b2⟩
  have x2 := x1.under b2
  have B2 := Below.over B1 b2
  clear b2 TR x1 B1
  go_wp2_with fail
  refine (TL.out _).mono ?_
  rintro e w' ⟨rfl, rfl⟩
  obtain ⟨c0, c1, c2, c3, f0, f1, f2, f3⟩ := x2.cells
  have hsz := B2.size
  go_wp2_with fail
  have hF := x2.put 0 ⟨#[]⟩ 0 ⟨#[]⟩
  have g0 := hF.c0
  have g1 := hF.c1
  have g2 := hF.c2
  have g3 := hF.c3
  refine bodyPost_ret (v := .tuple #[.agg #[.int .i64 0, .string ⟨#[]⟩, .int .i64 0, .string ⟨#[]⟩], .bool false]) (by simp [results, Tryz.results38, go_sem, g0, g1, g2, g3]) rfl ⟨rfl, by go_grown⟩

theorem parse_c6 (s q : ByteArray) (z : Int) (h : s.data.toList = (inum z).data.toList ++ 47 :: q.data.toList) (hs : s.size ≤ 100000) (hz : nd z.natAbs ≤ 4096) (hq : rightL q.data.toList = false) (w : World) (_ht : Tab w) :
    Calls Tryz.prog 38 #[.string s] w fun e w' => BadPost w e w' := by
  have hsz := half_size s (inum z) q h
  have TC := Lib.hid (fun w => cutS_some s (inum z) q (noSl_inum z) h (by omega) w)
  have TR := Lib.hid (fun w => right_b (inum z) true (Lib.hid (rightI_inum z)) (by omega) w)
  have TL := Lib.hid (fun w => isLong_b (inum z) false (Lib.hid (by rw [dz_inum]; exact decide_eq_false (by omega))) w)
  have TN := Lib.hid (fun w => natRight_e q false (Lib.hid (hq)) (by omega) w)
  clear h hz hq
  go_enter Tryz.func38, Tryz.ntmps38
  go_wp2_with fail
  refine (TC.out _).mono ?_
  rintro e w1 ⟨rfl, b1⟩
  have x1 := bf1 (w := w) b1
  have B1 := Below.over (w := w) (by go_grown) b1
  clear b1 TC
  go_wp2_with fail
  refine (TR.out _).mono ?_
  rintro e w2 ⟨rfl, b2⟩
  have x2 := x1.under b2
  have B2 := Below.over B1 b2
  clear b2 TR x1 B1
  go_wp2_with fail
  refine (TL.out _).mono ?_
  rintro e w' ⟨rfl, rfl⟩
  go_wp2_with fail
  refine (TN.out _).mono ?_
  rintro e w' ⟨rfl, rfl⟩
  obtain ⟨c0, c1, c2, c3, f0, f1, f2, f3⟩ := x2.cells
  have hsz := B2.size
  go_wp2_with fail
  have hF := x2.put 0 ⟨#[]⟩ 0 ⟨#[]⟩
  have g0 := hF.c0
  have g1 := hF.c1
  have g2 := hF.c2
  have g3 := hF.c3
  refine bodyPost_ret (v := .tuple #[.agg #[.int .i64 0, .string ⟨#[]⟩, .int .i64 0, .string ⟨#[]⟩], .bool false]) (by simp [results, Tryz.results38, go_sem, g0, g1, g2, g3]) rfl ⟨rfl, by go_grown⟩

theorem parse_c7 (s : ByteArray) (z : Int) (n : Nat) (h : s.data.toList = (inum z).data.toList ++ 47 :: (num n).data.toList) (hs : s.size ≤ 100000) (hz : nd z.natAbs ≤ 4096) (hn : 4096 < nd n) (w : World) (_ht : Tab w) :
    Calls Tryz.prog 38 #[.string s] w fun e w' => BadPost w e w' := by
  have hsz := half_size s (inum z) (num n) h
  have TC := Lib.hid (fun w => cutS_some s (inum z) (num n) (noSl_inum z) h (by omega) w)
  have TR := Lib.hid (fun w => right_b (inum z) true (Lib.hid (rightI_inum z)) (by omega) w)
  have TL := Lib.hid (fun w => isLong_b (inum z) false (Lib.hid (by rw [dz_inum]; exact decide_eq_false (by omega))) w)
  have TN := Lib.hid (fun w => natRight_e (num n) true (Lib.hid (by rw [num_data]; exact right_num n)) (by omega) w)
  have TM := Lib.hid (fun w => isLong_b (num n) true (Lib.hid (by rw [dz_num]; exact decide_eq_true hn)) w)
  clear h hz hn
  go_enter Tryz.func38, Tryz.ntmps38
  go_wp2_with fail
  refine (TC.out _).mono ?_
  rintro e w1 ⟨rfl, b1⟩
  have x1 := bf1 (w := w) b1
  have B1 := Below.over (w := w) (by go_grown) b1
  clear b1 TC
  go_wp2_with fail
  refine (TR.out _).mono ?_
  rintro e w2 ⟨rfl, b2⟩
  have x2 := x1.under b2
  have B2 := Below.over B1 b2
  clear b2 TR x1 B1
  go_wp2_with fail
  refine (TL.out _).mono ?_
  rintro e w' ⟨rfl, rfl⟩
  go_wp2_with fail
  refine (TN.out _).mono ?_
  rintro e w' ⟨rfl, rfl⟩
  go_wp2_with fail
  refine (TM.out _).mono ?_
  rintro e w' ⟨rfl, rfl⟩
  obtain ⟨c0, c1, c2, c3, f0, f1, f2, f3⟩ := x2.cells
  have hsz := B2.size
  go_wp2_with fail
  have hF := x2.put 0 ⟨#[]⟩ 0 ⟨#[]⟩
  have g0 := hF.c0
  have g1 := hF.c1
  have g2 := hF.c2
  have g3 := hF.c3
  refine bodyPost_ret (v := .tuple #[.agg #[.int .i64 0, .string ⟨#[]⟩, .int .i64 0, .string ⟨#[]⟩], .bool false]) (by simp [results, Tryz.results38, go_sem, g0, g1, g2, g3]) rfl ⟨rfl, by go_grown⟩

end Go.Proofs.YthamlnolfagpiaaGreatDoor.D

namespace Go.Proofs.YthamlnolfagpiaaGreatDoor.D
open Go.RowKit
set_option maxRecDepth 8000

theorem parse_c8 (s : ByteArray) (z : Int) (n : Nat) (h : s.data.toList = (inum z).data.toList ++ 47 :: (num n).data.toList) (hs : s.size ≤ 100000) (hz : nd z.natAbs ≤ 4096) (h0 : n = 0) (w : World) (_ht : Tab w) :
    Calls Tryz.prog 38 #[.string s] w fun e w' => BadPost w e w' := by
  have hsz := half_size s (inum z) (num n) h
  have TC := Lib.hid (fun w => cutS_some s (inum z) (num n) (noSl_inum z) h (by omega) w)
  have TR := Lib.hid (fun w => right_b (inum z) true (Lib.hid (rightI_inum z)) (by omega) w)
  have TL := Lib.hid (fun w => isLong_b (inum z) false (Lib.hid (by rw [dz_inum]; exact decide_eq_false (by omega))) w)
  have TN := Lib.hid (fun w => natRight_e (num n) true (Lib.hid (by rw [num_data]; exact right_num n)) (by omega) w)
  have TM := Lib.hid (fun w => isLong_b (num n) false (Lib.hid (by rw [dz_num]; exact decide_eq_false (by subst h0; have := nd_le 0 0 (by decide); omega))) w)
  have e0 := zero_eq n
  rw [decide_eq_true h0] at e0
  clear h hz h0
  go_enter Tryz.func38, Tryz.ntmps38
  go_wp2_with fail
  refine (TC.out _).mono ?_
  rintro e w1 ⟨rfl, b1⟩
  have x1 := bf1 (w := w) b1
  have B1 := Below.over (w := w) (by go_grown) b1
  clear b1 TC
  go_wp2_with fail
  refine (TR.out _).mono ?_
  rintro e w2 ⟨rfl, b2⟩
  have x2 := x1.under b2
  have B2 := Below.over B1 b2
  clear b2 TR x1 B1
  go_wp2_with fail
  refine (TL.out _).mono ?_
  rintro e w' ⟨rfl, rfl⟩
  go_wp2_with fail
  refine (TN.out _).mono ?_
  rintro e w' ⟨rfl, rfl⟩
  go_wp2_with fail
  refine (TM.out _).mono ?_
  rintro e w' ⟨rfl, rfl⟩
  obtain ⟨c0, c1, c2, c3, f0, f1, f2, f3⟩ := x2.cells
  have hsz := B2.size
  go_wp2_with fail
  have hF := x2.put 0 ⟨#[]⟩ 0 ⟨#[]⟩
  have g0 := hF.c0
  have g1 := hF.c1
  have g2 := hF.c2
  have g3 := hF.c3
  refine bodyPost_ret (v := .tuple #[.agg #[.int .i64 0, .string ⟨#[]⟩, .int .i64 0, .string ⟨#[]⟩], .bool false]) (by simp [results, Tryz.results38, go_sem, g0, g1, g2, g3]) rfl ⟨rfl, by go_grown⟩

theorem parse_c9 (s : ByteArray) (z : Int) (n : Nat) (h : s.data.toList = (inum z).data.toList ++ 47 :: (num n).data.toList) (hs : s.size ≤ 100000) (hz : nd z.natAbs ≤ 4096) (h0 : n = 1) (w : World) (_ht : Tab w) :
    Calls Tryz.prog 38 #[.string s] w fun e w' => BadPost w e w' := by
  have hsz := half_size s (inum z) (num n) h
  have TC := Lib.hid (fun w => cutS_some s (inum z) (num n) (noSl_inum z) h (by omega) w)
  have TR := Lib.hid (fun w => right_b (inum z) true (Lib.hid (rightI_inum z)) (by omega) w)
  have TL := Lib.hid (fun w => isLong_b (inum z) false (Lib.hid (by rw [dz_inum]; exact decide_eq_false (by omega))) w)
  have TN := Lib.hid (fun w => natRight_e (num n) true (Lib.hid (by rw [num_data]; exact right_num n)) (by omega) w)
  have TM := Lib.hid (fun w => isLong_b (num n) false (Lib.hid (by rw [dz_num]; exact decide_eq_false (by subst h0; have := nd_le 1 0 (by decide); omega))) w)
  have e0 := zero_eq n
  rw [decide_eq_false (by omega)] at e0
  have e1 := one_eqN n
  rw [decide_eq_true h0] at e1
  clear h hz h0
  go_enter Tryz.func38, Tryz.ntmps38
  go_wp2_with fail
  refine (TC.out _).mono ?_
  rintro e w1 ⟨rfl, b1⟩
  have x1 := bf1 (w := w) b1
  have B1 := Below.over (w := w) (by go_grown) b1
  clear b1 TC
  go_wp2_with fail
  refine (TR.out _).mono ?_
  rintro e w2 ⟨rfl, b2⟩
  have x2 := x1.under b2
  have B2 := Below.over B1 b2
  clear b2 TR x1 B1
  go_wp2_with fail
  refine (TL.out _).mono ?_
  rintro e w' ⟨rfl, rfl⟩
  go_wp2_with fail
  refine (TN.out _).mono ?_
  rintro e w' ⟨rfl, rfl⟩
  go_wp2_with fail
  refine (TM.out _).mono ?_
  rintro e w' ⟨rfl, rfl⟩
  obtain ⟨c0, c1, c2, c3, f0, f1, f2, f3⟩ := x2.cells
  have hsz := B2.size
  go_wp2_with fail
  have hF := x2.put 0 ⟨#[]⟩ 0 ⟨#[]⟩
  have g0 := hF.c0
  have g1 := hF.c1
  have g2 := hF.c2
  have g3 := hF.c3
  refine bodyPost_ret (v := .tuple #[.agg #[.int .i64 0, .string ⟨#[]⟩, .int .i64 0, .string ⟨#[]⟩], .bool false]) (by simp [results, Tryz.results38, go_sem, g0, g1, g2, g3]) rfl ⟨rfl, by go_grown⟩

set_option maxHeartbeats 1000000 in
theorem parse_c10 (s : ByteArray) (z : Int) (n : Nat) (h : s.data.toList = (inum z).data.toList ++ 47 :: (num n).data.toList) (hs : s.size ≤ 100000) (hz : nd z.natAbs ≤ 4096) (hn : nd n ≤ 4096) (h2 : 2 ≤ n) (G : Nat) (hG : Nat.gcd z.natAbs n = G) (hG1 : G ≠ 1) (w : World) (ht : Tab w) :
    Calls Tryz.prog 38 #[.string s] w fun e w' => BadPost w e w' := by
  have hsz := half_size s (inum z) (num n) h
  have TC := Lib.hid (fun w => cutS_some s (inum z) (num n) (noSl_inum z) h (by omega) w)
  have TR := Lib.hid (fun w => right_b (inum z) true (Lib.hid (rightI_inum z)) (by omega) w)
  have TL := Lib.hid (fun w => isLong_b (inum z) false (Lib.hid (by rw [dz_inum]; exact decide_eq_false (by omega))) w)
  have TN := Lib.hid (fun w => natRight_e (num n) true (Lib.hid (by rw [num_data]; exact right_num n)) (by omega) w)
  have TM := Lib.hid (fun w => isLong_b (num n) false (Lib.hid (by rw [dz_num]; exact decide_eq_false (by omega))) w)
  have e0 := zero_eq n
  rw [decide_eq_false (by omega)] at e0
  have e1 := one_eqN n
  rw [decide_eq_false (by omega)] at e1
  have TI := Lib.hid (fun w => integerOf_z z hz w)
  have TJ := Lib.hid (fun w => integerOf_n n hn w)
  have TG := Lib.hid (fun (s s' : Int) (l l' : ByteArray) (h1 : Rp s l z) (h2 : Rp s' l' (n : Int)) w ht => gcd_z s s' z (n : Int) l l' G (Lib.hid (by rw [Int.natAbs_natCast]; exact hG)) h1 h2 w ht)
  have HD : Hid (decide ((G : Int) = 1) = false) := decide_eq_false (by omega)
  clear h hz hn h2 hG hG1
  go_enter Tryz.func38, Tryz.ntmps38
  go_wp2_with fail
  refine (TC.out _).mono ?_
  rintro e w1 ⟨rfl, b1⟩
  have x1 := bf1 (w := w) b1
  have B1 := Below.over (w := w) (by go_grown) b1
  clear b1 TC
  go_wp2_with fail
  refine (TR.out _).mono ?_
  rintro e w2 ⟨rfl, b2⟩
  have x2 := x1.under b2
  have B2 := Below.over B1 b2
  clear b2 TR x1 B1
  go_wp2_with fail
  refine (TL.out _).mono ?_
  rintro e w' ⟨rfl, rfl⟩
  go_wp2_with fail
  refine (TN.out _).mono ?_
  rintro e w' ⟨rfl, rfl⟩
  go_wp2_with fail
  refine (TM.out _).mono ?_
  rintro e w' ⟨rfl, rfl⟩
  go_wp2_with fail
  refine (TI.out _).mono ?_
  rintro e w3 ⟨s3, l3, rfl, h3, b3⟩
  have x3 := x2.under b3
  have B3 := Below.over B2 b3
  clear b3 x2 B2 TI TL TN TM
  go_wp2_with fail
  refine (TJ.out _).mono ?_
  rintro e w4 ⟨s4, l4, rfl, h4, b4⟩
  have x4 := x3.under b4
  have B4 := Below.over B3 b4
  clear b4 x3 B3 TJ
  have k4 := x4.lt
  go_wp2_with fail
  refine (TG.out s3 s4 l3 l4 h3 h4 _ (ht.over (B4.alloc (by omega) _))).mono ?_
  rintro e w5 ⟨s5, l5, rfl, h5, b5⟩
  have x5 := (x4.alloc (cFr s3 l3 s4 l4)).under b5
  have v5 := (Bf.made w4 _ rfl s3 l3 s4 l4).under b5
  have B5 := Below.over (w := w) (B4.alloc (by omega) (cFr s3 l3 s4 l4)) b5
  clear b5 x4 TG
  go_wp2_with fail
  refine (is_z s5 (G : Int) l5 1 false (by decide) HD h5 _).mono ?_
  rintro e w6 ⟨rfl, b6⟩
  have x6 := x5.under b6
  have v6 := v5.under b6
  have v60 := v6.c0
  have v61 := v6.c1
  have v62 := v6.c2
  have v63 := v6.c3
  have B6 := Below.over B5 b6
  clear b6 x5 v5 B5
  obtain ⟨c0, c1, c2, c3, f0, f1, f2, f3⟩ := x6.cells
  have hsz := B6.size
  go_wp2_with fail
  have hF := x6.put 0 ⟨#[]⟩ 0 ⟨#[]⟩
  have g0 := hF.c0
  have g1 := hF.c1
  have g2 := hF.c2
  have g3 := hF.c3
  refine bodyPost_ret (v := .tuple #[.agg #[.int .i64 0, .string ⟨#[]⟩, .int .i64 0, .string ⟨#[]⟩], .bool false]) (by simp [results, Tryz.results38, go_sem, g0, g1, g2, g3]) rfl ⟨rfl, by go_grown⟩

def GoodPost' (z : Int) (n : Nat) (w : World) (e : Ending) (w' : World) : Prop :=
  ∃ (s : Int) (l : ByteArray) (s' : Int) (l' : ByteArray), e = .returned (.tuple #[.agg #[.int .i64 s, .string l, .int .i64 s', .string l'], .bool true]) ∧ Rp s l z ∧ Rp s' l' (n : Int) ∧ Below w.heap.size w w'
set_option maxHeartbeats 1000000 in
theorem parse_c11 (s : ByteArray) (z : Int) (n : Nat) (h : s.data.toList = (inum z).data.toList ++ 47 :: (num n).data.toList) (hs : s.size ≤ 100000) (hz : nd z.natAbs ≤ 4096) (hn : nd n ≤ 4096) (h2 : 2 ≤ n) (G : Nat) (hG : Nat.gcd z.natAbs n = G) (hG1 : G = 1) (w : World) (ht : Tab w) :
    Calls Tryz.prog 38 #[.string s] w fun e w' => GoodPost' z n w e w' := by
  have hsz := half_size s (inum z) (num n) h
  have TC := Lib.hid (fun w => cutS_some s (inum z) (num n) (noSl_inum z) h (by omega) w)
  have TR := Lib.hid (fun w => right_b (inum z) true (Lib.hid (rightI_inum z)) (by omega) w)
  have TL := Lib.hid (fun w => isLong_b (inum z) false (Lib.hid (by rw [dz_inum]; exact decide_eq_false (by omega))) w)
  have TN := Lib.hid (fun w => natRight_e (num n) true (Lib.hid (by rw [num_data]; exact right_num n)) (by omega) w)
  have TM := Lib.hid (fun w => isLong_b (num n) false (Lib.hid (by rw [dz_num]; exact decide_eq_false (by omega))) w)
  have e0 := zero_eq n
  rw [decide_eq_false (by omega)] at e0
  have e1 := one_eqN n
  rw [decide_eq_false (by omega)] at e1
  have TI := Lib.hid (fun w => integerOf_z z hz w)
  have TJ := Lib.hid (fun w => integerOf_n n hn w)
  have TG := Lib.hid (fun (s s' : Int) (l l' : ByteArray) (h1 : Rp s l z) (h2 : Rp s' l' (n : Int)) w ht => gcd_z s s' z (n : Int) l l' G (Lib.hid (by rw [Int.natAbs_natCast]; exact hG)) h1 h2 w ht)
  have HD : Hid (decide ((G : Int) = 1) = true) := decide_eq_true (by omega)
  clear h hz hn h2 hG hG1
  go_enter Tryz.func38, Tryz.ntmps38
  go_wp2_with fail
  refine (TC.out _).mono ?_
  rintro e w1 ⟨rfl, b1⟩
  have x1 := bf1 (w := w) b1
  have B1 := Below.over (w := w) (by go_grown) b1
  clear b1 TC
  go_wp2_with fail
  refine (TR.out _).mono ?_
  rintro e w2 ⟨rfl, b2⟩
  have x2 := x1.under b2
  have B2 := Below.over B1 b2
  clear b2 TR x1 B1
  go_wp2_with fail
  refine (TL.out _).mono ?_
  rintro e w' ⟨rfl, rfl⟩
  go_wp2_with fail
  refine (TN.out _).mono ?_
  rintro e w' ⟨rfl, rfl⟩
  go_wp2_with fail
  refine (TM.out _).mono ?_
  rintro e w' ⟨rfl, rfl⟩
  go_wp2_with fail
  refine (TI.out _).mono ?_
  rintro e w3 ⟨s3, l3, rfl, h3, b3⟩
  have x3 := x2.under b3
  have B3 := Below.over B2 b3
  clear b3 x2 B2 TI TL TN TM
  go_wp2_with fail
  refine (TJ.out _).mono ?_
  rintro e w4 ⟨s4, l4, rfl, h4, b4⟩
  have x4 := x3.under b4
  have B4 := Below.over B3 b4
  clear b4 x3 B3 TJ
  have k4 := x4.lt
  go_wp2_with fail
  refine (TG.out s3 s4 l3 l4 h3 h4 _ (ht.over (B4.alloc (by omega) _))).mono ?_
  rintro e w5 ⟨s5, l5, rfl, h5, b5⟩
  have x5 := (x4.alloc (cFr s3 l3 s4 l4)).under b5
  have v5 := (Bf.made w4 _ rfl s3 l3 s4 l4).under b5
  have B5 := Below.over (w := w) (B4.alloc (by omega) (cFr s3 l3 s4 l4)) b5
  clear b5 x4 TG
  go_wp2_with fail
  refine (is_z s5 (G : Int) l5 1 true (by decide) HD h5 _).mono ?_
  rintro e w6 ⟨rfl, b6⟩
  have x6 := x5.under b6
  have v6 := v5.under b6
  have v60 := v6.c0
  have v61 := v6.c1
  have v62 := v6.c2
  have v63 := v6.c3
  have B6 := Below.over B5 b6
  clear b6 x5 v5 B5
  obtain ⟨c0, c1, c2, c3, f0, f1, f2, f3⟩ := x6.cells
  have hsz := B6.size
  go_wp2_with fail
  have hF := x6.put s3 l3 s4 l4
  have g0 := hF.c0
  have g1 := hF.c1
  have g2 := hF.c2
  have g3 := hF.c3
  refine bodyPost_ret (v := .tuple #[.agg #[.int .i64 s3, .string l3, .int .i64 s4, .string l4], .bool true]) (by simp [results, Tryz.results38, go_sem, g0, g1, g2, g3]) rfl ⟨_, _, _, _, rfl, h3, h4, by go_grown⟩

/-! ### all ways -/
theorem num_of (q : ByteArray) (h : rightL q.data.toList = true) : ∃ n, q = num n := right_str q h
theorem parse_r (r : Rat) (hr : Sz 4096 r) (w : World) (ht : Tab w) :
    Calls Tryz.prog 38 #[.string (rtx r)] w fun e w' => GoodPost r w e w' := by
  by_cases h : r.den = 1
  · have he : rtx r = inum r.num := (rtx_whole h).symm
    rw [he]
    refine (parse_c3 r.num hr.1 w ht).mono ?_
    rintro e w' ⟨s, l, s', l', he, h1, h2, hb⟩
    rw [Rat.num_intCast] at h1
    rw [Rat.den_intCast] at h2
    exact ⟨s, l, s', l', he, h1, by rw [h]; exact h2, hb⟩
  · have hd := rat_den_pos r
    have hs := rtx_size r
    have h1 := hr.1
    have h2 := hr.2
    refine (parse_c11 (rtx r) r.num r.den (by rw [rtx_data, rtxL_two h]; rfl) (by omega) hr.1 hr.2 (by omega) 1 (rat_gcd r) rfl w ht).mono ?_
    rintro e w' ⟨s, l, s', l', he, h1, h2, hb⟩
    exact ⟨s, l, s', l', he, h1, h2, hb⟩
theorem parse_bad (s : ByteArray) (h : rightR s.data.toList = false) (hs : s.size ≤ 100000) (w : World) (ht : Tab w) :
    Calls Tryz.prog 38 #[.string s] w fun e w' => BadPost w e w' := by
  rcases cut_cases s.data.toList with hn | ⟨p, q, hp, hpq⟩
  · cases hr : rightI s.data.toList
    · exact parse_c1 s hn hr hs w ht
    · obtain ⟨z, rfl⟩ := rightI_str s hr
      by_cases hz : nd z.natAbs ≤ 4096
      · rw [inum_data, rightR_one _ z hz rfl] at h; cases h
      · exact parse_c2 z (by omega) hs w ht
  · obtain ⟨p, rfl⟩ : ∃ P : ByteArray, p = P.data.toList := ⟨⟨p.toArray⟩, by simp⟩
    obtain ⟨q, rfl⟩ : ∃ Q : ByteArray, q = Q.data.toList := ⟨⟨q.toArray⟩, by simp⟩
    cases hr : rightI p.data.toList
    · exact parse_c4 s p q hp hpq hs hr w ht
    obtain ⟨z, rfl⟩ := rightI_str p hr
    by_cases hz : nd z.natAbs ≤ 4096
    · cases hq : rightL q.data.toList
      · exact parse_c6 s q z hpq hs hz hq w ht
      · obtain ⟨n, rfl⟩ := num_of q hq
        by_cases hn : nd n ≤ 4096
        · by_cases h0 : n = 0
          · exact parse_c8 s z n hpq hs hz h0 w ht
          by_cases h1 : n = 1
          · exact parse_c9 s z n hpq hs hz h1 w ht
          by_cases hg : Nat.gcd z.natAbs n = 1
          · rw [hpq, show (inum z).data.toList = inumL z from rfl, show (num n).data.toList = Lib.decDigits n from rfl, rightR_two z n (by omega) hg hz hn] at h; cases h
          · exact parse_c10 s z n hpq hs hz hn (by omega) _ rfl hg w ht
        · exact parse_c7 s z n hpq hs hz (by omega) w ht
    · exact parse_c5 s q z hpq hs (by omega) w ht

end Go.Proofs.YthamlnolfagpiaaGreatDoor.D

namespace Go.Proofs.YthamlnolfagpiaaGreatDoor.D
open Go.RowKit
set_option maxRecDepth 8000

/-- what parse leaves, whether the text is right -/
def ApPost (R : Int → ByteArray → Int → ByteArray → Prop) (ok : Bool) (w : World) (e : Ending) (w' : World) : Prop :=
  ∃ (s : Int) (l : ByteArray) (s' : Int) (l' : ByteArray), e = .returned (.tuple #[.agg #[.int .i64 s, .string l, .int .i64 s', .string l'], .bool ok]) ∧ R s l s' l' ∧ Below w.heap.size w w'
def RpF (r : Rat) (s : Int) (l : ByteArray) (s' : Int) (l' : ByteArray) : Prop := Rp s l r.num ∧ Rp s' l' (r.den : Int)
def RpAny (_ : Int) (_ : ByteArray) (_ : Int) (_ : ByteArray) : Prop := True
def Ap (a : ByteArray) (R : Int → ByteArray → Int → ByteArray → Prop) (ok : Bool) : Prop := ∀ w : World, Tab w → Calls Tryz.prog 38 #[.string a] w fun e w' => ApPost R ok w e w'
theorem ap_bad (a : ByteArray) (h : rightR a.data.toList = false) (hs : a.size ≤ 100000) : Ap a RpAny false := fun w ht =>
  (parse_bad a h hs w ht).mono fun _ _ ⟨he, hb⟩ => ⟨_, _, _, _, he, trivial, hb⟩
theorem ap_r (r : Rat) (h : Sz 4096 r) : Ap (rtx r) (RpF r) true := fun w ht =>
  (parse_r r h w ht).mono fun _ _ ⟨s, l, s', l', he, h1, h2, hb⟩ => ⟨s, l, s', l', he, ⟨h1, h2⟩, hb⟩
theorem ap_any (a : ByteArray) (hs : a.size ≤ 100000) : ∃ ok, Ap a RpAny ok := by
  cases h : rightR a.data.toList
  · exact ⟨false, ap_bad a h hs⟩
  · obtain ⟨r, hr, rfl⟩ := rightR_str a h
    exact ⟨true, fun w ht => (ap_r r hr w ht).mono fun _ _ ⟨s, l, s', l', he, _, hb⟩ => ⟨s, l, s', l', he, trivial, hb⟩⟩

def PpPost (R1 R2 : Int → ByteArray → Int → ByteArray → Prop) (ok : Bool) (w : World) (e : Ending) (w' : World) : Prop :=
  ∃ (s : Int) (l : ByteArray) (s' : Int) (l' : ByteArray) (t : Int) (k : ByteArray) (t' : Int) (k' : ByteArray), e = .returned (.tuple #[.agg #[.int .i64 s, .string l, .int .i64 s', .string l'], .agg #[.int .i64 t, .string k, .int .i64 t', .string k'], .bool ok]) ∧ R1 s l s' l' ∧ R2 t k t' k' ∧ Below w.heap.size w w'
theorem put_two {w : World} {m n : Nat} {s s' t t' : Int} {l l' k k' : ByteArray} (h : Bf w m s l s' l') (g : Bf w n t k t' k') (hne : m ≠ n) (a : Int) (b : ByteArray) (c : Int) (d : ByteArray) (a' : Int) (b' : ByteArray) (c' : Int) (d' : ByteArray) :
    Bf ((((((((w.setCell ⟨m, 0, none⟩ (.int .i64 a)).setCell ⟨m, 1, none⟩ (.string b)).setCell ⟨m, 2, none⟩ (.int .i64 c)).setCell ⟨m, 3, none⟩ (.string d)).setCell ⟨n, 0, none⟩ (.int .i64 a')).setCell ⟨n, 1, none⟩ (.string b')).setCell ⟨n, 2, none⟩ (.int .i64 c')).setCell ⟨n, 3, none⟩ (.string d')) m a b c d ∧
    Bf ((((((((w.setCell ⟨m, 0, none⟩ (.int .i64 a)).setCell ⟨m, 1, none⟩ (.string b)).setCell ⟨m, 2, none⟩ (.int .i64 c)).setCell ⟨m, 3, none⟩ (.string d)).setCell ⟨n, 0, none⟩ (.int .i64 a')).setCell ⟨n, 1, none⟩ (.string b')).setCell ⟨n, 2, none⟩ (.int .i64 c')).setCell ⟨n, 3, none⟩ (.string d')) n a' b' c' d' :=
  ⟨((((h.put a b c d).far (p := ⟨n, 0, none⟩) hne _).far (p := ⟨n, 1, none⟩) hne _).far (p := ⟨n, 2, none⟩) hne _).far (p := ⟨n, 3, none⟩) hne _,
    ((((g.far (p := ⟨m, 0, none⟩) hne.symm _).far (p := ⟨m, 1, none⟩) hne.symm _).far (p := ⟨m, 2, none⟩) hne.symm _).far (p := ⟨m, 3, none⟩) hne.symm _).put a' b' c' d'⟩

set_option maxHeartbeats 2000000 in
theorem pair_ap (a b : ByteArray) (R1 R2 : Int → ByteArray → Int → ByteArray → Prop) (ok1 ok2 ok : Bool) (hok : (ok1 && ok2) = ok) (ha : Ap a R1 ok1) (hb : Ap b R2 ok2) (w : World) (ht : Tab w) :
    Calls Tryz.prog 50 #[.string a, .string b] w fun e w' => PpPost R1 R2 ok w e w' := by
  have HA := Lib.hid ha
  have HB := Lib.hid hb
  clear ha hb
  cases ok1 <;> cases ok2
  all_goals
    subst hok
    go_enter Tryz.func50, Tryz.ntmps50
    go_wp2_with fail
    refine (HA.out _ (ht.over (by go_grown))).mono ?_
    rintro e w1 ⟨s, l, s', l', rfl, r1, b1⟩
    obtain ⟨x4, x5⟩ := bff (w := w) b1
    have B1 := Below.over (w := w) (by go_grown) b1
    have k1 := x5.lt
    go_wp2_with fail
    refine (HB.out _ (ht.over (B1.alloc (by omega) _))).mono ?_
    rintro e w2 ⟨t, k, t', k', rfl, r2, b2⟩
    have y4 := (x4.alloc (cFr s l s' l')).under b2
    have y5 := (x5.alloc (cFr s l s' l')).under b2
    have y7 := (Bf.made w1 _ rfl s l s' l').under b2
    have B2 := Below.over (w := w) (B1.alloc (by omega) (cFr s l s' l')) b2
    have k2 := y7.lt
    have R1' := Lib.hid r1
    have R2' := Lib.hid r2
    clear x4 x5 b1 b2 HA HB r1 r2
    have z4 := y4.alloc (.cells #[.int .i64 t, .string k, .int .i64 t', .string k'] 48)
    have z5 := y5.alloc (.cells #[.int .i64 t, .string k, .int .i64 t', .string k'] 48)
    have z7 := y7.alloc (.cells #[.int .i64 t, .string k, .int .i64 t', .string k'] 48)
    have z9 := Bf.made w2 _ rfl t k t' k'
    obtain ⟨a0, a1, a2, a3, a4, a5, a6, a7⟩ := z4.cells
    obtain ⟨c0, c1, c2, c3, c4, c5, c6, c7⟩ := z5.cells
    obtain ⟨d0, d1, d2, d3, _⟩ := z7.cells
    obtain ⟨f0, f1, f2, f3, _⟩ := z9.cells
    go_wp2_with fail
    go_region
    all_goals
      go_wp2_with fail
      first
        | (have hF := put_two z4 z5 (by omega) s l s' l' t k t' k'
           obtain ⟨⟨g0, g1, g2, g3, _⟩, g4, g5, g6, g7, _⟩ := And.intro hF.1.cells hF.2.cells
           refine bodyPost_ret (v := .tuple #[.agg #[.int .i64 s, .string l, .int .i64 s', .string l'], .agg #[.int .i64 t, .string k, .int .i64 t', .string k'], .bool _]) (by simp [results, Tryz.results50, go_sem, g0, g1, g2, g3, g4, g5, g6, g7]; done) rfl ⟨_, _, _, _, _, _, _, _, rfl, R1'.out, R2'.out, by go_grown⟩)
        | (have hF := put_two z5 z4 (by omega) t k t' k' s l s' l'
           obtain ⟨⟨g0, g1, g2, g3, _⟩, g4, g5, g6, g7, _⟩ := And.intro hF.1.cells hF.2.cells
           refine bodyPost_ret (v := .tuple #[.agg #[.int .i64 s, .string l, .int .i64 s', .string l'], .agg #[.int .i64 t, .string k, .int .i64 t', .string k'], .bool _]) (by simp [results, Tryz.results50, go_sem, g0, g1, g2, g3, g4, g5, g6, g7]; done) rfl ⟨_, _, _, _, _, _, _, _, rfl, R1'.out, R2'.out, by go_grown⟩)

theorem pair_bad (a b : ByteArray) (h : rightR a.data.toList = false ∨ rightR b.data.toList = false) (ha : a.size ≤ 100000) (hb : b.size ≤ 100000) (w : World) (ht : Tab w) :
    Calls Tryz.prog 50 #[.string a, .string b] w fun e w' => PpPost RpAny RpAny false w e w' := by
  rcases h with h | h
  · obtain ⟨ok, h2⟩ := ap_any b hb
    exact pair_ap a b _ _ false ok false rfl (ap_bad a h ha) h2 w ht
  · obtain ⟨ok, h2⟩ := ap_any a ha
    exact pair_ap a b _ _ ok false false (by cases ok <;> rfl) h2 (ap_bad b h hb) w ht
theorem pair_r (r s : Rat) (hr : Sz 4096 r) (hs : Sz 4096 s) (w : World) (ht : Tab w) :
    Calls Tryz.prog 50 #[.string (rtx r), .string (rtx s)] w fun e w' => PpPost (RpF r) (RpF s) true w e w' := pair_ap _ _ _ _ true true true rfl (ap_r r hr) (ap_r s hs) w ht

end Go.Proofs.YthamlnolfagpiaaGreatDoor.D

