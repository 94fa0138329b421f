/-
  DERIVED. The walk of SetsTell.
-/
import Derived.Test.YtpcdpljkgnpkoaaDoorSetLaw3
namespace Go.Proofs.YtpcdpljkgnpkoaaDoor.S
open Go.RowKit
set_option maxRecDepth 8000

set_option maxHeartbeats 2000000 in
theorem setsTell_walk (x y i : Int) (w : World) (hT : Tab w) :
    Calls Tryd.prog 3 #[.int .i64 x, .int .i64 y, .int .i64 i] w fun e w' => e = .returned (.bool true) ∧ Below w.heap.size w w' := by
  have HPx := Lib.hid (plain_z x)
  have HPy := Lib.hid (plain_z y)
  have ha := plain_lt x
  have hb := plain_lt y
  generalize plainN x = a at *
  generalize plainN y = b at *
  have ha9 : a < 9223372036854775808 := by simpa using ha
  have hb9 : b < 9223372036854775808 := by simpa using hb
  have H1 := Lib.hid (setHas_i a i ha)
  have R1 := Lib.hid (refHas_i a i ha)
  have H2 := Lib.hid (setSize_n a ha)
  have R2 := Lib.hid (refSize_n a ha)
  have H3 := Lib.hid (setMembers_n a ha)
  have R3 := Lib.hid (refMembers_n a ha)
  have H4 := Lib.hid (setLeast_n a ha)
  have R4 := Lib.hid (refLeast_n a ha)
  have H5 := Lib.hid (setWithin_n a b ha hb)
  have R5 := Lib.hid (refWithin_n a b ha hb)
  have hab : a &&& b < 2 ^ 63 := Nat.and_lt_two_pow _ hb
  have hob : a ||| b < 2 ^ 63 := Nat.or_lt_two_pow ha hb
  have H6 := Lib.hid (setWithin_n (a &&& b) a hab ha)
  have H7 := Lib.hid (setWithin_n a (a ||| b) ha hob)
  rw [within_and] at H6
  rw [within_or] at H7
  have hand := i64_and a b ha9 hb9
  have hor := i64_or a b ha9 hb9
  have hln := members_len a
  generalize a &&& b = ab at *
  generalize a ||| b = ob at *
  generalize hasI a i = q at *
  generalize size a = s at *
  generalize leastI a = m at *
  generalize withinB a b = r at *
  generalize members a = l at *
  have HLN := Lib.hid hln
  have HAND := Lib.hid hand
  clear ha hb hab hob hln
  go_enter Tryd.func3, Tryd.ntmps3
  go_wp2_with fail
  refine (HPx.out _).mono ?_
  rintro e w' ⟨rfl, rfl⟩
  go_wp2_with fail
  refine (HPy.out _).mono ?_
  rintro e w' ⟨rfl, rfl⟩
  go_wp2_with fail
  refine (H1.out _).mono ?_
  rintro e w' ⟨rfl, rfl⟩
  go_wp2_with fail
  refine (R1.out _).mono ?_
  rintro e w' ⟨rfl, rfl⟩
  go_wp2_with fail
  refine (H2.out _).mono ?_
  rintro e w' ⟨rfl, rfl⟩
  go_wp2_with fail
  refine (R2.out _).mono ?_
  rintro e w' ⟨rfl, rfl⟩
  go_wp2_with fail
  refine (H3.out _ hT).mono ?_
  rintro e w1 ⟨v1, rfl, o1, b1⟩
  have B1 := Lib.hid b1
  have T1 := hT.over b1
  clear b1
  go_wp2_with fail
  refine (R3.out _).mono ?_
  rintro e w2 ⟨v2, rfl, o2, b2⟩
  have O1 := Lib.hid ((o1.weak.frame b2))
  have B2 := Lib.hid (over5 B1.out b2)
  have T2 := T1.over b2
  clear b2 o1 T1 B1
  obtain ⟨A1, c1, rfl, _, e1⟩ := O1.out.shape
  obtain ⟨A2, c2, rfl, _, e2⟩ := o2.weak.shape
  have HS := same_n A1 A2 c1 c2 l l (by have := HLN.out; omega) w2 e1 e2
  have HS2 := Lib.hid HS
  clear HS e1 e2 o2 O1
  go_wp2_with fail
  refine HS2.out.mono ?_
  rintro e w3 ⟨rfl, b3⟩
  have B3 := Lib.hid (over5 B2.out b3)
  have T3 := T2.over b3
  clear b3 T2 B2 HS2
  go_wp2_with fail
  refine (H4.out _ T3).mono ?_
  rintro e w' ⟨rfl, rfl⟩
  go_wp2_with fail
  refine (R4.out _).mono ?_
  rintro e w4 ⟨rfl, b4⟩
  have B4 := Lib.hid (over5 B3.out b4)
  have T4 := T3.over b4
  clear b4 T3 B3
  go_wp2_with fail
  refine (H5.out _).mono ?_
  rintro e w' ⟨rfl, rfl⟩
  go_wp2_with fail
  refine (R5.out _).mono ?_
  rintro e w5 ⟨rfl, b5⟩
  have B5 := Lib.hid (over5 B4.out b5)
  have T5 := T4.over b5
  clear b5 T4 B4
  go_wp2_with fail
  refine (H6.out _).mono ?_
  rintro e w' ⟨rfl, rfl⟩
  go_wp2_with fail
  refine (H7.out _).mono ?_
  rintro e w' ⟨rfl, rfl⟩
  go_wp2_with fail
  refine (awake_n _ T5).mono ?_
  rintro e w6 ⟨rfl, b6⟩
  have B6 := Lib.hid (over5 B5.out b6)
  clear b6
  go_wp2_with fail
  go_ret
  exact ⟨rfl, B6.out⟩

end Go.Proofs.YtpcdpljkgnpkoaaDoor.S

