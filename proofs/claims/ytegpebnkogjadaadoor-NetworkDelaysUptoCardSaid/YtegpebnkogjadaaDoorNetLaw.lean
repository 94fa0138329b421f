/-
  DERIVED. The walk of the laws' examples.
-/
import Derived.Test.YtegpebnkogjadaaDoorNetTop6
import Derived.Test.YtegpebnkogjadaaDoorNetTop8
import Derived.Test.YtegpebnkogjadaaDoorNetEx
import Derived.Test.YtegpebnkogjadaaDoorRefNet5
namespace Go.Proofs.YtegpebnkogjadaaDoor.T
open Go.RowKit
set_option maxRecDepth 8000

theorem wfa_sm (s : List (Int × Int)) : Wfa (smA s) := fun i hi => by
  have h (x : Int) (h0 : 0 ≤ x) (h1 : x ≤ 2) : I64 x := ⟨by omega, by omega⟩
  match i, hi with
  | 0, _ => exact ⟨h 0 (by decide) (by decide), h 1 (by decide) (by decide), h 0 (by decide) (by decide)⟩
  | 1, _ => exact ⟨h 1 (by decide) (by decide), h 2 (by decide) (by decide), h 0 (by decide) (by decide)⟩
  | 2, _ => exact ⟨h 0 (by decide) (by decide), h 2 (by decide) (by decide), h 0 (by decide) (by decide)⟩
theorem li3 (w : World) (a b c : Int) : L.Li (w.alloc (.cells #[.int .i64 a, .int .i64 b, .int .i64 c] 3)) (.slice (some ⟨w.heap.size, 0, none⟩) 3 3) [a, b, c] := by
  refine ⟨some ⟨w.heap.size, 0, none⟩, 3, rfl, fun i hi => ⟨_, rfl, by simp, ?_⟩⟩
  match i, hi with
  | 0, _ => simp [Addr.add]
  | 1, _ => simp [Addr.add]
  | 2, _ => simp [Addr.add]
theorem sm_upd : (smA []).map (updF 1 2 13 4) = smA [(13, 4)] := by decide +kernel
theorem sm_slo : sloE 3 (smA []) 1 2 13 4 = 0 := by decide +kernel

set_option maxHeartbeats 3200000 in
theorem examples_n (w : World) (hT : Tab w) :
    Calls Tryd.prog 8 #[] w fun e w' => e = .returned (.bool true) ∧ Below w.heap.size w w' := by
  have KG1 : Hid (∀ (vp va : Value) (w : World), Ss w vp smP → As w va (smA []) → Tab w → Calls Tryd.prog 15 #[.agg #[vp, va], .int .i64 0, .int .i64 0, .int .i64 2, .int .i64 3] w fun e w' => e = .returned (.tuple #[.int .i64 23, .int .i64 9, .int .i64 0]) ∧ Below w.heap.size w w') := fun vp va w hp ha hT => by
    have := go_n vp va smP (smA []) 0 0 2 3 (by decide) sm_ok (by decide) (by decide) w hp ha hT
    rw [show smP.length = 3 from rfl, sm_go] at this; exact this
  have KG2 : Hid (∀ (vp va : Value) (w : World), Ss w vp smP → As w va (smA []) → Tab w → Calls Tryd.prog 15 #[.agg #[vp, va], .int .i64 0, .int .i64 2, .int .i64 0, .int .i64 3] w fun e w' => e = .returned (.tuple #[.int .i64 0, .int .i64 0, .int .i64 12]) ∧ Below w.heap.size w w') := fun vp va w hp ha hT => by
    have := go_n vp va smP (smA []) 0 2 0 3 (by decide) sm_ok (by decide) (by decide) w hp ha hT
    rw [show smP.length = 3 from rfl, sm_go2] at this; exact this
  have KG3 : Hid (∀ (vp va : Value) (w : World), Ss w vp smP → As w va (smA []) → Tab w → Calls Tryd.prog 15 #[.agg #[vp, va], .int .i64 0, .int .i64 0, .int .i64 3, .int .i64 3] w fun e w' => e = .returned (.tuple #[.int .i64 0, .int .i64 0, .int .i64 11]) ∧ Below w.heap.size w w') := fun vp va w hp ha hT => by
    have := go_n vp va smP (smA []) 0 0 3 3 (by decide) sm_ok (by decide) (by decide) w hp ha hT
    rw [show smP.length = 3 from rfl, sm_go3] at this; exact this
  have KS : Hid (∀ (vp va : Value) (w : World), Ss w vp smP → As w va (smA []) → Calls Tryd.prog 21 #[.agg #[vp, va], .int .i64 1, .int .i64 2, .int .i64 13, .int .i64 4] w fun e w' => ∃ vp va, e = .returned (.tuple #[.agg #[vp, va], .int .i64 0]) ∧ Ss w' vp smP ∧ As w' va (smA [(13, 4)]) ∧ Below w.heap.size w w') := fun vp va w hp ha => by
    have := slower_n vp va smP (smA []) 1 2 13 4 (by decide) sm_ok w hp ha
    rw [show smP.length = 3 from rfl, sm_slo, sm_upd] at this
    exact this.mono fun e w' ⟨vp, va, h, h1, _, b⟩ => ⟨vp, va, h, (h1 rfl).1, (h1 rfl).2, b⟩
  have KE : Hid (∀ (s : List (Int × Int)) (t : Int) (r : List Int), NetOk smP (smA s) → earL 3 (smA s) 0 0 t = r → 0 ≤ t → t ≤ 1048576 → ∀ (vp va : Value) (w : World), Ss w vp smP → As w va (smA s) → Tab w → Calls Tryd.prog 19 #[.agg #[vp, va], .int .i64 0, .int .i64 0, .int .i64 t] w (LiP r w)) := fun s t r hN hr h0 h1 vp va w hp ha hT => by
    have := earliest_n vp va smP (smA s) 0 0 t (show 3 ≤ 60 by decide) hN (wfa_sm s) (by unfold I64; decide) h0 h1 w hp ha hT
    rw [show smP.length = 3 from rfl, hr] at this; exact this
  have KA := Lib.hid (sample_n w)
  have HT := Lib.hid hT
  clear hT
  go_enter Tryd.func8, Tryd.ntmps8
  go_wp2_with fail
  refine KA.out.mono ?_
  rintro e w1 ⟨vp, va, rfl, hs, ha, b1⟩
  obtain ⟨op, cp, hvp, -⟩ := id hs
  obtain ⟨oa, ca, hva, -⟩ := id ha
  subst hvp
  subst hva
  rw [show smP.length = 3 from rfl] at *
  rw [show (smA []).length = 3 from rfl] at *
  have BL := below_alloc w1 (.cells #[.slice op 3 cp, .slice oa 3 ca] 25)
  have N := Lib.hid (Nb.made w1 (.slice op 3 cp) (.slice oa 3 ca))
  have HP := Lib.hid (hs.below BL)
  have HA := Lib.hid (ha.below BL)
  have B := Lib.hid (over b1 BL)
  have HT := Lib.hid (HT.out.over B.out)
  have g0 := N.out.c0
  have g1 := N.out.c1
  clear hs ha b1 BL KA
  go_wp2_with fail
  refine (KG1.out _ _ _ HP.out HA.out HT.out).mono ?_
  rintro e w2 ⟨rfl, b2⟩
  have N := Lib.hid (N.out.below b2)
  have HP := Lib.hid (HP.out.below b2)
  have HA := Lib.hid (HA.out.below b2)
  have B := Lib.hid (over B.out b2)
  have HT := Lib.hid (HT.out.over b2)
  clear g0 g1
  have g0 := N.out.c0
  have g1 := N.out.c1
  clear b2 KG1
  go_wp2_with fail
  refine (KS.out _ _ _ HP.out HA.out).mono ?_
  rintro e w3 ⟨vp', va', rfl, hs, ha, b3⟩
  obtain ⟨op', cp', hvp, -⟩ := id hs
  obtain ⟨oa', ca', hva, -⟩ := id ha
  subst hvp
  subst hva
  rw [show smP.length = 3 from rfl] at *
  rw [show (smA [(13, 4)]).length = 3 from rfl] at *
  have BL := below_alloc w3 (.cells #[.slice op' 3 cp', .slice oa' 3 ca'] 25)
  have BB := over b3 BL
  have M := Lib.hid (Nb.made w3 (.slice op' 3 cp') (.slice oa' 3 ca'))
  have MP := Lib.hid (hs.below BL)
  have MA := Lib.hid (ha.below BL)
  have N := Lib.hid (N.out.below BB)
  have HP := Lib.hid (HP.out.below BB)
  have HA := Lib.hid (HA.out.below BB)
  have B := Lib.hid (over B.out BB)
  have HT := Lib.hid (HT.out.over BB)
  clear g0 g1
  have g0 := N.out.c0
  have g1 := N.out.c1
  have h0 := M.out.c0
  have h1 := M.out.c1
  clear hs ha b3 BL BB KS
  go_wp2_with fail
  refine (KG2.out _ _ _ HP.out HA.out HT.out).mono ?_
  rintro e w4 ⟨rfl, b4⟩
  have N := Lib.hid (N.out.below b4)
  have HP := Lib.hid (HP.out.below b4)
  have HA := Lib.hid (HA.out.below b4)
  have B := Lib.hid (over B.out b4)
  have HT := Lib.hid (HT.out.over b4)
  have M := Lib.hid (M.out.below b4)
  have MP := Lib.hid (MP.out.below b4)
  have MA := Lib.hid (MA.out.below b4)
  clear g0 g1
  have g0 := N.out.c0
  have g1 := N.out.c1
  clear h0 h1
  have h0 := M.out.c0
  have h1 := M.out.c1
  clear b4 KG2
  go_wp2_with fail
  refine (KG3.out _ _ _ HP.out HA.out HT.out).mono ?_
  rintro e w5 ⟨rfl, b5⟩
  have N := Lib.hid (N.out.below b5)
  have HP := Lib.hid (HP.out.below b5)
  have HA := Lib.hid (HA.out.below b5)
  have B := Lib.hid (over B.out b5)
  have HT := Lib.hid (HT.out.over b5)
  have M := Lib.hid (M.out.below b5)
  have MP := Lib.hid (MP.out.below b5)
  have MA := Lib.hid (MA.out.below b5)
  clear g0 g1
  have g0 := N.out.c0
  have g1 := N.out.c1
  clear h0 h1
  have h0 := M.out.c0
  have h1 := M.out.c1
  clear b5 KG3
  go_wp2_with fail
  refine (KE.out [] 3 [3, 13, 18] sm_ok sm_e1 (by decide) (by decide) _ _ _ HP.out HA.out HT.out).mono ?_
  rintro e w6 ⟨oe6, ce6, rfl, hl, b6⟩
  rw [show ([3, 13, 18] : List Int).length = 3 from rfl] at *
  have BL := below_alloc w6 (.cells #[.int .i64 3, .int .i64 13, .int .i64 18] 3)
  have BB := over b6 BL
  have E1 := Lib.hid (hl.below BL)
  have E2 := Lib.hid (li3 w6 3 13 18)
  have N := Lib.hid (N.out.below BB)
  have HP := Lib.hid (HP.out.below BB)
  have HA := Lib.hid (HA.out.below BB)
  have B := Lib.hid (over B.out BB)
  have HT := Lib.hid (HT.out.over BB)
  have M := Lib.hid (M.out.below BB)
  have MP := Lib.hid (MP.out.below BB)
  have MA := Lib.hid (MA.out.below BB)
  clear g0 g1
  have g0 := N.out.c0
  have g1 := N.out.c1
  clear h0 h1
  have h0 := M.out.c0
  have h1 := M.out.c1
  clear hl b6 BL BB
  go_wp2_with fail
  refine (ints_eq _ _ [3, 13, 18] (by decide) _ E1.out E2.out).mono ?_
  rintro e w7 ⟨rfl, b7⟩
  have N := Lib.hid (N.out.below b7)
  have HP := Lib.hid (HP.out.below b7)
  have HA := Lib.hid (HA.out.below b7)
  have B := Lib.hid (over B.out b7)
  have HT := Lib.hid (HT.out.over b7)
  have M := Lib.hid (M.out.below b7)
  have MP := Lib.hid (MP.out.below b7)
  have MA := Lib.hid (MA.out.below b7)
  clear g0 g1
  have g0 := N.out.c0
  have g1 := N.out.c1
  clear h0 h1
  have h0 := M.out.c0
  have h1 := M.out.c1
  clear E1 E2 b7
  go_wp2_with fail
  refine (KE.out [(13, 4)] 3 [3, 13, 22] sm_ok2 sm_e2 (by decide) (by decide) _ _ _ MP.out MA.out HT.out).mono ?_
  rintro e w8 ⟨oe8, ce8, rfl, hl, b8⟩
  rw [show ([3, 13, 22] : List Int).length = 3 from rfl] at *
  have BL := below_alloc w8 (.cells #[.int .i64 3, .int .i64 13, .int .i64 22] 3)
  have BB := over b8 BL
  have E1 := Lib.hid (hl.below BL)
  have E2 := Lib.hid (li3 w8 3 13 22)
  have N := Lib.hid (N.out.below BB)
  have HP := Lib.hid (HP.out.below BB)
  have HA := Lib.hid (HA.out.below BB)
  have B := Lib.hid (over B.out BB)
  have HT := Lib.hid (HT.out.over BB)
  have M := Lib.hid (M.out.below BB)
  have MP := Lib.hid (MP.out.below BB)
  have MA := Lib.hid (MA.out.below BB)
  clear g0 g1
  have g0 := N.out.c0
  have g1 := N.out.c1
  clear h0 h1
  have h0 := M.out.c0
  have h1 := M.out.c1
  clear hl b8 BL BB
  go_wp2_with fail
  refine (ints_eq _ _ [3, 13, 22] (by decide) _ E1.out E2.out).mono ?_
  rintro e w9 ⟨rfl, b9⟩
  have N := Lib.hid (N.out.below b9)
  have HP := Lib.hid (HP.out.below b9)
  have HA := Lib.hid (HA.out.below b9)
  have B := Lib.hid (over B.out b9)
  have HT := Lib.hid (HT.out.over b9)
  have M := Lib.hid (M.out.below b9)
  have MP := Lib.hid (MP.out.below b9)
  have MA := Lib.hid (MA.out.below b9)
  clear g0 g1
  have g0 := N.out.c0
  have g1 := N.out.c1
  clear h0 h1
  have h0 := M.out.c0
  have h1 := M.out.c1
  clear E1 E2 b9
  go_wp2_with fail
  refine (KE.out [(13, 4)] 2 [2, 12, 17] sm_ok2 sm_e3 (by decide) (by decide) _ _ _ MP.out MA.out HT.out).mono ?_
  rintro e w10 ⟨oe10, ce10, rfl, hl, b10⟩
  rw [show ([2, 12, 17] : List Int).length = 3 from rfl] at *
  have BL := below_alloc w10 (.cells #[.int .i64 2, .int .i64 12, .int .i64 17] 3)
  have BB := over b10 BL
  have E1 := Lib.hid (hl.below BL)
  have E2 := Lib.hid (li3 w10 2 12 17)
  have N := Lib.hid (N.out.below BB)
  have HP := Lib.hid (HP.out.below BB)
  have HA := Lib.hid (HA.out.below BB)
  have B := Lib.hid (over B.out BB)
  have HT := Lib.hid (HT.out.over BB)
  have M := Lib.hid (M.out.below BB)
  have MP := Lib.hid (MP.out.below BB)
  have MA := Lib.hid (MA.out.below BB)
  clear g0 g1
  have g0 := N.out.c0
  have g1 := N.out.c1
  clear h0 h1
  have h0 := M.out.c0
  have h1 := M.out.c1
  clear hl b10 BL BB
  go_wp2_with fail
  refine (ints_eq _ _ [2, 12, 17] (by decide) _ E1.out E2.out).mono ?_
  rintro e w11 ⟨rfl, b11⟩
  have N := Lib.hid (N.out.below b11)
  have HP := Lib.hid (HP.out.below b11)
  have HA := Lib.hid (HA.out.below b11)
  have B := Lib.hid (over B.out b11)
  have HT := Lib.hid (HT.out.over b11)
  have M := Lib.hid (M.out.below b11)
  have MP := Lib.hid (MP.out.below b11)
  have MA := Lib.hid (MA.out.below b11)
  clear g0 g1
  have g0 := N.out.c0
  have g1 := N.out.c1
  clear h0 h1
  have h0 := M.out.c0
  have h1 := M.out.c1
  clear E1 E2 b11
  go_wp2_with fail
  refine (KE.out [(13, 4)] 90 [90, 100, 109] sm_ok2 sm_e4 (by decide) (by decide) _ _ _ MP.out MA.out HT.out).mono ?_
  rintro e w12 ⟨oe12, ce12, rfl, hl, b12⟩
  rw [show ([90, 100, 109] : List Int).length = 3 from rfl] at *
  have BL := below_alloc w12 (.cells #[.int .i64 90, .int .i64 100, .int .i64 109] 3)
  have BB := over b12 BL
  have E1 := Lib.hid (hl.below BL)
  have E2 := Lib.hid (li3 w12 90 100 109)
  have N := Lib.hid (N.out.below BB)
  have HP := Lib.hid (HP.out.below BB)
  have HA := Lib.hid (HA.out.below BB)
  have B := Lib.hid (over B.out BB)
  have HT := Lib.hid (HT.out.over BB)
  have M := Lib.hid (M.out.below BB)
  have MP := Lib.hid (MP.out.below BB)
  have MA := Lib.hid (MA.out.below BB)
  clear g0 g1
  have g0 := N.out.c0
  have g1 := N.out.c1
  clear h0 h1
  have h0 := M.out.c0
  have h1 := M.out.c1
  clear hl b12 BL BB
  go_wp2_with fail
  refine (ints_eq _ _ [90, 100, 109] (by decide) _ E1.out E2.out).mono ?_
  rintro e w13 ⟨rfl, b13⟩
  have N := Lib.hid (N.out.below b13)
  have HP := Lib.hid (HP.out.below b13)
  have HA := Lib.hid (HA.out.below b13)
  have B := Lib.hid (over B.out b13)
  have HT := Lib.hid (HT.out.over b13)
  have M := Lib.hid (M.out.below b13)
  have MP := Lib.hid (MP.out.below b13)
  have MA := Lib.hid (MA.out.below b13)
  clear g0 g1
  have g0 := N.out.c0
  have g1 := N.out.c1
  clear h0 h1
  have h0 := M.out.c0
  have h1 := M.out.c1
  clear E1 E2 b13
  go_wp2_with fail
  go_ret
  exact ⟨rfl, B.out⟩

end Go.Proofs.YtegpebnkogjadaaDoor.T

